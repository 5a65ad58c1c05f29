/-
  The walks of NodeBytes. Condition: the nodes read as such, their kids' sectors fit, the bytes read as bytes.
-/
import Derived.Test.YtnifaldgofmciaaNfH
import Derived.Test.YtnifaldgofmciaaNfI
namespace Go.Proofs.Ytnifaldgofmciaa
open Go.RowKit
open oc (Byt Sees Own be nth)
set_option maxRecDepth 100000 in
set_option maxHeartbeats 32000000 in
theorem bytes_gn (A M : Array Value) (n m : NV) (xs : List Int) (v : Value) (w : World) (hn : ND w (.agg A) n) (hm : ND w (.agg M) m) (hs : Sees w v xs) (hgn : greatB n = true) : Calls Try.prog 3 #[.agg A, .agg M, v] w (AliveP w) := by
  obtain ⟨xv, cv, rfl, h63⟩ := hs.form
  have IA := Lib.hid hn.info
  have IM := Lib.hid hm.info
  have AL := Lib.hid alive8
  obtain ⟨W1, hW1⟩ : ∃ W1, W1 = (w.alloc (.cells A 26)).alloc (.cells M 26) := ⟨_, rfl⟩
  have b0 : Below w.heap.size w (w.alloc (.cells A 26)) := (Below.refl _ _).alloc (Nat.le_refl _) _
  have b1 : Below w.heap.size w W1 := by rw [hW1]; exact b0.alloc (by simp) _
  have GA : Hid (W1.heap[w.heap.size]? = some (.cells A 26 (0, 0))) := by show _ = _; rw [hW1, Below.heap_alloc _ _ _ (by simp)]; exact heap_alloc_new w _
  have GM : Hid (W1.heap[w.heap.size + 1]? = some (.cells M 26 (0, 0))) := by
    show _ = _
    rw [hW1]
    have := heap_alloc_new (w.alloc (.cells A 26)) (.cells M 26)
    simpa using this
  have NR := Lib.hid (hn.below b1)
  have MR := Lib.hid (hm.below b1)
  have SB := Lib.hid (hs.below b1)
  have B0 := Lib.hid b1
  have HW1 := Lib.hid hW1
  have HBY := Lib.hid hs.1
  have GTn : Hid (∀ v W, ND W v n → Calls Try.prog 7 #[v] W fun e w' => e = .returned (.bool true) ∧ Below W.heap.size W w') := fun v W h => by have := great v n W h; rw [hgn] at this; exact this
  clear hW1 b0 b1 hn hm hs hgn
  go_enter Try.func3, Try.ntmps3
  go_upto_region 1 with (fail)
  rw [← HW1.out]
  go_wp2_with (refine wpList_load_row rfl 26 (.tmp 3) rfl w.heap.size rfl 26 A (0, 0) _ GA.out Try.underlying26 rfl IA.out ?_)
  refine (GTn.out _ _ NR.out).mono ?_
  rintro e w1 ⟨rfl, hb⟩
  have B0 := Lib.hid (B0.out.trans (hb.mono B0.out.size))
  have GA := Lib.hid ((hb.block _ (blk_lt GA.out)).trans GA.out)
  have GM := Lib.hid ((hb.block _ (blk_lt GM.out)).trans GM.out)
  have NR := Lib.hid (NR.out.below hb)
  have MR := Lib.hid (MR.out.below hb)
  clear hb
  go_wp2_with fail
  refine (AL.out _).mono ?_
  rintro e w7 ⟨rfl, hb⟩
  have B0 := Lib.hid (B0.out.trans (hb.mono B0.out.size))
  have GA := Lib.hid ((hb.block _ (blk_lt GA.out)).trans GA.out)
  have GM := Lib.hid ((hb.block _ (blk_lt GM.out)).trans GM.out)
  have NR := Lib.hid (NR.out.below hb)
  have MR := Lib.hid (MR.out.below hb)
  clear hb
  go_wp2_with fail
  go_ret
  exact ⟨rfl, B0.out⟩
set_option maxRecDepth 100000 in
set_option maxHeartbeats 32000000 in
theorem bytes_gm (A M : Array Value) (n m : NV) (xs : List Int) (v : Value) (w : World) (hn : ND w (.agg A) n) (hm : ND w (.agg M) m) (hs : Sees w v xs) (hgn : greatB n = false) (hgm : greatB m = true) : Calls Try.prog 3 #[.agg A, .agg M, v] w (AliveP w) := by
  obtain ⟨xv, cv, rfl, h63⟩ := hs.form
  have IA := Lib.hid hn.info
  have IM := Lib.hid hm.info
  have AL := Lib.hid alive8
  obtain ⟨W1, hW1⟩ : ∃ W1, W1 = (w.alloc (.cells A 26)).alloc (.cells M 26) := ⟨_, rfl⟩
  have b0 : Below w.heap.size w (w.alloc (.cells A 26)) := (Below.refl _ _).alloc (Nat.le_refl _) _
  have b1 : Below w.heap.size w W1 := by rw [hW1]; exact b0.alloc (by simp) _
  have GA : Hid (W1.heap[w.heap.size]? = some (.cells A 26 (0, 0))) := by show _ = _; rw [hW1, Below.heap_alloc _ _ _ (by simp)]; exact heap_alloc_new w _
  have GM : Hid (W1.heap[w.heap.size + 1]? = some (.cells M 26 (0, 0))) := by
    show _ = _
    rw [hW1]
    have := heap_alloc_new (w.alloc (.cells A 26)) (.cells M 26)
    simpa using this
  have NR := Lib.hid (hn.below b1)
  have MR := Lib.hid (hm.below b1)
  have SB := Lib.hid (hs.below b1)
  have B0 := Lib.hid b1
  have HW1 := Lib.hid hW1
  have HBY := Lib.hid hs.1
  have GTn : Hid (∀ v W, ND W v n → Calls Try.prog 7 #[v] W fun e w' => e = .returned (.bool false) ∧ Below W.heap.size W w') := fun v W h => by have := great v n W h; rw [hgn] at this; exact this
  have GTm : Hid (∀ v W, ND W v m → Calls Try.prog 7 #[v] W fun e w' => e = .returned (.bool true) ∧ Below W.heap.size W w') := fun v W h => by have := great v m W h; rw [hgm] at this; exact this
  clear hW1 b0 b1 hn hm hs hgn hgm
  go_enter Try.func3, Try.ntmps3
  go_upto_region 1 with (fail)
  rw [← HW1.out]
  go_wp2_with (refine wpList_load_row rfl 26 (.tmp 3) rfl w.heap.size rfl 26 A (0, 0) _ GA.out Try.underlying26 rfl IA.out ?_)
  refine (GTn.out _ _ NR.out).mono ?_
  rintro e w1 ⟨rfl, hb⟩
  have B0 := Lib.hid (B0.out.trans (hb.mono B0.out.size))
  have GA := Lib.hid ((hb.block _ (blk_lt GA.out)).trans GA.out)
  have GM := Lib.hid ((hb.block _ (blk_lt GM.out)).trans GM.out)
  have NR := Lib.hid (NR.out.below hb)
  have MR := Lib.hid (MR.out.below hb)
  clear hb
  go_wp2_with (refine wpList_load_met rfl 26 (.tmp 4) rfl (w.heap.size + 1) rfl 26 M (0, 0) _ GM.out Try.underlying26 ⟨_, rfl⟩ IM.out ?_)
  refine (GTm.out _ _ MR.out).mono ?_
  rintro e w2 ⟨rfl, hb⟩
  have B0 := Lib.hid (B0.out.trans (hb.mono B0.out.size))
  have GA := Lib.hid ((hb.block _ (blk_lt GA.out)).trans GA.out)
  have GM := Lib.hid ((hb.block _ (blk_lt GM.out)).trans GM.out)
  have NR := Lib.hid (NR.out.below hb)
  have MR := Lib.hid (MR.out.below hb)
  clear hb
  go_wp2_with fail
  refine (AL.out _).mono ?_
  rintro e w7 ⟨rfl, hb⟩
  have B0 := Lib.hid (B0.out.trans (hb.mono B0.out.size))
  have GA := Lib.hid ((hb.block _ (blk_lt GA.out)).trans GA.out)
  have GM := Lib.hid ((hb.block _ (blk_lt GM.out)).trans GM.out)
  have NR := Lib.hid (NR.out.below hb)
  have MR := Lib.hid (MR.out.below hb)
  clear hb
  go_wp2_with fail
  go_ret
  exact ⟨rfl, B0.out⟩
set_option maxRecDepth 100000 in
set_option maxHeartbeats 32000000 in
theorem bytes_lg (A M : Array Value) (n m : NV) (xs : List Int) (v : Value) (w : World) (hn : ND w (.agg A) n) (hm : ND w (.agg M) m) (hs : Sees w v xs) (hgn : greatB n = false) (hgm : greatB m = false) (hl : 2000 < xs.length) : Calls Try.prog 3 #[.agg A, .agg M, v] w (AliveP w) := by
  obtain ⟨xv, cv, rfl, h63⟩ := hs.form
  have IA := Lib.hid hn.info
  have IM := Lib.hid hm.info
  have AL := Lib.hid alive8
  obtain ⟨W1, hW1⟩ : ∃ W1, W1 = (w.alloc (.cells A 26)).alloc (.cells M 26) := ⟨_, rfl⟩
  have b0 : Below w.heap.size w (w.alloc (.cells A 26)) := (Below.refl _ _).alloc (Nat.le_refl _) _
  have b1 : Below w.heap.size w W1 := by rw [hW1]; exact b0.alloc (by simp) _
  have GA : Hid (W1.heap[w.heap.size]? = some (.cells A 26 (0, 0))) := by show _ = _; rw [hW1, Below.heap_alloc _ _ _ (by simp)]; exact heap_alloc_new w _
  have GM : Hid (W1.heap[w.heap.size + 1]? = some (.cells M 26 (0, 0))) := by
    show _ = _
    rw [hW1]
    have := heap_alloc_new (w.alloc (.cells A 26)) (.cells M 26)
    simpa using this
  have NR := Lib.hid (hn.below b1)
  have MR := Lib.hid (hm.below b1)
  have SB := Lib.hid (hs.below b1)
  have B0 := Lib.hid b1
  have HW1 := Lib.hid hW1
  have HBY := Lib.hid hs.1
  have GTn : Hid (∀ v W, ND W v n → Calls Try.prog 7 #[v] W fun e w' => e = .returned (.bool false) ∧ Below W.heap.size W w') := fun v W h => by have := great v n W h; rw [hgn] at this; exact this
  have GTm : Hid (∀ v W, ND W v m → Calls Try.prog 7 #[v] W fun e w' => e = .returned (.bool false) ∧ Below W.heap.size W w') := fun v W h => by have := great v m W h; rw [hgm] at this; exact this
  have hll : (2000 : Int) < (xs.length : Int) := by omega
  clear hW1 b0 b1 hn hm hs hgn hgm hl
  go_enter Try.func3, Try.ntmps3
  go_upto_region 1 with (fail)
  rw [← HW1.out]
  go_wp2_with (refine wpList_load_row rfl 26 (.tmp 3) rfl w.heap.size rfl 26 A (0, 0) _ GA.out Try.underlying26 rfl IA.out ?_)
  refine (GTn.out _ _ NR.out).mono ?_
  rintro e w1 ⟨rfl, hb⟩
  have B0 := Lib.hid (B0.out.trans (hb.mono B0.out.size))
  have GA := Lib.hid ((hb.block _ (blk_lt GA.out)).trans GA.out)
  have GM := Lib.hid ((hb.block _ (blk_lt GM.out)).trans GM.out)
  have NR := Lib.hid (NR.out.below hb)
  have MR := Lib.hid (MR.out.below hb)
  clear hb
  go_wp2_with (refine wpList_load_met rfl 26 (.tmp 4) rfl (w.heap.size + 1) rfl 26 M (0, 0) _ GM.out Try.underlying26 ⟨_, rfl⟩ IM.out ?_)
  refine (GTm.out _ _ MR.out).mono ?_
  rintro e w2 ⟨rfl, hb⟩
  have B0 := Lib.hid (B0.out.trans (hb.mono B0.out.size))
  have GA := Lib.hid ((hb.block _ (blk_lt GA.out)).trans GA.out)
  have GM := Lib.hid ((hb.block _ (blk_lt GM.out)).trans GM.out)
  have NR := Lib.hid (NR.out.below hb)
  have MR := Lib.hid (MR.out.below hb)
  clear hb
  go_wp2_with fail
  refine (AL.out _).mono ?_
  rintro e w7 ⟨rfl, hb⟩
  have B0 := Lib.hid (B0.out.trans (hb.mono B0.out.size))
  have GA := Lib.hid ((hb.block _ (blk_lt GA.out)).trans GA.out)
  have GM := Lib.hid ((hb.block _ (blk_lt GM.out)).trans GM.out)
  have NR := Lib.hid (NR.out.below hb)
  have MR := Lib.hid (MR.out.below hb)
  clear hb
  go_wp2_with fail
  go_ret
  exact ⟨rfl, B0.out⟩
set_option maxRecDepth 100000 in
set_option maxHeartbeats 32000000 in
theorem bytes_m000xx (A M : Array Value) (n m : NV) (xs : List Int) (v : Value) (w : World) (hn : ND w (.agg A) n) (hm : ND w (.agg M) m) (hs : Sees w v xs) (fn : ∀ p ∈ n.qs, 0 ≤ p.1 ∧ p.1 ≤ 4294967295) (fm : ∀ p ∈ m.qs, 0 ≤ p.1 ∧ p.1 ≤ 4294967295) (hgn : greatB n = false) (hgm : greatB m = false) (hl : xs.length ≤ 2000) (hok : okN n = false) (his : isN xs = false) : Calls Try.prog 3 #[.agg A, .agg M, v] w (AliveP w) := by
  obtain ⟨xv, cv, rfl, h63⟩ := hs.form
  have IA := Lib.hid hn.info
  have IM := Lib.hid hm.info
  have AL := Lib.hid alive8
  obtain ⟨W1, hW1⟩ : ∃ W1, W1 = (w.alloc (.cells A 26)).alloc (.cells M 26) := ⟨_, rfl⟩
  have b0 : Below w.heap.size w (w.alloc (.cells A 26)) := (Below.refl _ _).alloc (Nat.le_refl _) _
  have b1 : Below w.heap.size w W1 := by rw [hW1]; exact b0.alloc (by simp) _
  have GA : Hid (W1.heap[w.heap.size]? = some (.cells A 26 (0, 0))) := by show _ = _; rw [hW1, Below.heap_alloc _ _ _ (by simp)]; exact heap_alloc_new w _
  have GM : Hid (W1.heap[w.heap.size + 1]? = some (.cells M 26 (0, 0))) := by
    show _ = _
    rw [hW1]
    have := heap_alloc_new (w.alloc (.cells A 26)) (.cells M 26)
    simpa using this
  have NR := Lib.hid (hn.below b1)
  have MR := Lib.hid (hm.below b1)
  have SB := Lib.hid (hs.below b1)
  have B0 := Lib.hid b1
  have HW1 := Lib.hid hW1
  have HBY := Lib.hid hs.1
  obtain ⟨kb, hkm⟩ : ∃ kb, okN m = kb := ⟨_, rfl⟩
  have GTn : Hid (∀ v W, ND W v n → Calls Try.prog 7 #[v] W fun e w' => e = .returned (.bool false) ∧ Below W.heap.size W w') := fun v W h => by have := great v n W h; rw [hgn] at this; exact this
  have GTm : Hid (∀ v W, ND W v m → Calls Try.prog 7 #[v] W fun e w' => e = .returned (.bool false) ∧ Below W.heap.size W w') := fun v W h => by have := great v m W h; rw [hgm] at this; exact this
  have hll : (xs.length : Int) ≤ 2000 := by omega
  have n30 : n.ks.length ≤ 100 := by unfold greatB at hgn; simp only [Bool.or_eq_false_iff, decide_eq_false_iff_not] at hgn; omega
  have m30 : m.ks.length ≤ 100 := by unfold greatB at hgm; simp only [Bool.or_eq_false_iff, decide_eq_false_iff_not] at hgm; omega
  have np : n.okP := by obtain ⟨_, _, _, _, h1, _, _, h4, h5⟩ := hn; exact ⟨h1.1, h4, h5⟩
  have hrb : rightB n.leaf n.ks n.vs.length n.qs.length = false := by rw [right_eq np, hok]; rfl
  have xl : (asN n).l.length ≤ 100 := by
    unfold asN
    by_cases h : okN n = true
    · rw [if_pos h, parts_len]; exact n30
    · rw [if_neg h]; exact Nat.zero_le _
  have NX := Lib.hid (is_eq hs.1)
  have hisd : isD xs = false := by rw [NX.out.1, his]
  have ACn : Hid (∀ W, ND W (.agg A) n → Calls Try.prog 9 #[.agg A] W fun e w' => ∃ O, e = .returned (.tuple #[.agg O, .bool false]) ∧ DM w' (.agg O) (asN n) ∧ Below W.heap.size W w') := fun W h => by have := asD A n W h n30 fn; unfold AsP at this; rw [hok] at this; exact this
  have ACm : Hid (∀ W, ND W (.agg M) m → Calls Try.prog 9 #[.agg M] W fun e w' => ∃ O, e = .returned (.tuple #[.agg O, .bool kb]) ∧ DM w' (.agg O) (asN m) ∧ Below W.heap.size W w') := fun W h => by have := asD M m W h m30 fm; unfold AsP at this; rw [hkm] at this; exact this
  have WR : Hid (∀ v W, ND W v n → Calls Try.prog 10 #[v] W fun e w' => ∃ q, e = .returned (.tuple #[q, .int .i64 3]) ∧ Sees w' q [] ∧ Below W.heap.size W w') := fun v W h => by
    have := write v n W h fn
    unfold WriteP wrE wrV at this
    rw [hrb] at this
    exact this
  have RT : Hid (∀ v W, ND W v n → Calls Try.prog 12 #[v] W fun e w' => e = .returned (.bool false) ∧ Below W.heap.size W w') := fun v W h => by have := rightN v n W h; rw [hrb] at this; exact this
  have WD : Hid (∀ O W, DM W (.agg O) (asN n) → Calls Try.prog 13 #[.agg O] W fun e w' => ∃ q, e = .returned (.tuple #[q, .int .i64 3]) ∧ Sees w' q [] ∧ Below W.heap.size W w') := fun O W h => by
    have := writeD O (asN n) W h xl
    unfold WrP at this
    rw [(by unfold asN; rw [hok]; cases n.leaf <;> rfl : rightD (asN n) = false)] at this
    exact this
  have CP := Lib.hid (fun v W (h : Sees W v xs) => oc.copy v xs (by omega) W h)
  obtain ⟨gt, hgt⟩ : ∃ gt, gt = nz := ⟨_, rfl⟩
  obtain ⟨zd, hzd⟩ : ∃ zd, zd = nzD := ⟨_, rfl⟩
  have RF : Hid (∀ v W, Sees W v xs → Calls Try.prog 15 #[v] W fun e w' => ∃ U, e = .returned (.tuple #[.agg U, .int .i64 3]) ∧ ND w' (.agg U) gt ∧ freshN W.heap.size (.agg U) ∧ Below W.heap.size W w') := fun v W h => by
    have := readF v xs W h (by omega)
    unfold ReadPF at this
    rw [his] at this
    refine this.mono fun e w' ⟨u, q1, q2, q3, q4⟩ => ?_
    obtain ⟨K, V, Q, rfl, _⟩ := id q2
    exact ⟨_, q1, by rw [hgt]; exact q2, q3, q4⟩
  have RDC : Hid (∀ v W, Sees W v xs → Calls Try.prog 16 #[v] W fun e w' => ∃ O, e = .returned (.tuple #[.agg O, .int .i64 3]) ∧ DM w' (.agg O) zd ∧ Below W.heap.size W w') := fun v W h => by
    have := readD v xs W h
    unfold ReadDP at this
    rw [hisd] at this
    rw [hzd]
    exact this
  have SLC : Hid (∀ U O W, ND W (.agg U) gt → ND W (.agg O) nz → Calls Try.prog 18 #[.agg U, .agg O] W fun e w' => e = .returned (.bool true) ∧ Below W.heap.size W w') := fun U O W h1 h2 => by
    rw [hgt] at h1
    have := same (.agg U) (.agg O) nz nz W h1 h2
    rw [show sameB nz nz = true by simp [sameB]] at this
    exact this
  have hz26 := z26
  have hz32 := z32
  have b26z := b26
  obtain ⟨Zn, hZn⟩ : ∃ Zn : Array Value, Zn = #[.bool false, .slice none 0 0, .slice none 0 0, .slice none 0 0] := ⟨_, rfl⟩
  obtain ⟨Zd, hZd⟩ : ∃ Zd : Array Value, Zd = #[.bool false, .slice none 0 0] := ⟨_, rfl⟩
  rw [← hZn] at hz26 b26z
  rw [← hZd] at hz32
  have BZ := Lib.hid b26z
  have NZ : Hid (∀ W, ND W (.agg Zn) nz) := fun W => by rw [hZn]; exact nd_nz W
  have ZnN : Hid (Zn.size = 4) := by show _ = _; rw [hZn]; rfl
  have ZdN : Hid (Zd.size = 2) := by show _ = _; rw [hZd]; rfl
  clear hW1 b0 b1 hn hm hs fn fm hgn hgm hl hok his hkm n30 m30 np hrb xl hisd b26z hZn hZd hgt hzd NX
  generalize asN n = xn at *
  generalize asN m = ym at *
  go_enter Try.func3, Try.ntmps3
  go_upto_region 1 with (fail)
  rw [← HW1.out]
  go_wp2_with (refine wpList_load_row rfl 26 (.tmp 3) rfl w.heap.size rfl 26 A (0, 0) _ GA.out Try.underlying26 rfl IA.out ?_)
  refine (GTn.out _ _ NR.out).mono ?_
  rintro e w1 ⟨rfl, hb⟩
  have B0 := Lib.hid (B0.out.trans (hb.mono B0.out.size))
  have GA := Lib.hid ((hb.block _ (blk_lt GA.out)).trans GA.out)
  have GM := Lib.hid ((hb.block _ (blk_lt GM.out)).trans GM.out)
  have NR := Lib.hid (NR.out.below hb)
  have MR := Lib.hid (MR.out.below hb)
  have SB := Lib.hid (SB.out.below hb)
  clear hb
  go_wp2_with (refine wpList_load_met rfl 26 (.tmp 4) rfl (w.heap.size + 1) rfl 26 M (0, 0) _ GM.out Try.underlying26 ⟨_, rfl⟩ IM.out ?_)
  refine (GTm.out _ _ MR.out).mono ?_
  rintro e w2 ⟨rfl, hb⟩
  have B0 := Lib.hid (B0.out.trans (hb.mono B0.out.size))
  have GA := Lib.hid ((hb.block _ (blk_lt GA.out)).trans GA.out)
  have GM := Lib.hid ((hb.block _ (blk_lt GM.out)).trans GM.out)
  have NR := Lib.hid (NR.out.below hb)
  have MR := Lib.hid (MR.out.below hb)
  have SB := Lib.hid (SB.out.below hb)
  clear hb
  go_upto_region 3 with (fail)
  go_wp2_with (refine wpList_load_row rfl 26 (.tmp 3) rfl w.heap.size rfl 26 A (0, 0) _ GA.out Try.underlying26 rfl IA.out ?_)
  refine (ACn.out _ NR.out).mono ?_
  rintro e w3 ⟨X, rfl, hd, hb⟩
  have B0 := Lib.hid (B0.out.trans (hb.mono B0.out.size))
  have GA := Lib.hid ((hb.block _ (blk_lt GA.out)).trans GA.out)
  have GM := Lib.hid ((hb.block _ (blk_lt GM.out)).trans GM.out)
  have NR := Lib.hid (NR.out.below hb)
  have MR := Lib.hid (MR.out.below hb)
  have SB := Lib.hid (SB.out.below hb)
  have DX := Lib.hid hd
  clear hd
  clear hb
  have Sgx : Hid (Zd.size = X.size) := by show _ = _; rw [ZdN.out, DX.out.two]
  have Igx := Lib.hid DX.out.info
  have Ogx := Lib.hid DX.out.one
  have GN := Lib.hid (heap_alloc_new w3 (.cells Zd 32))
  have RW := Lib.hid (alloc_setRowT w3 Zd X 32 _ rfl)
  have hb : Below w3.heap.size w3 (w3.alloc (.cells X 32)) := (Below.refl _ _).alloc (Nat.le_refl _) _
  have GX := Lib.hid (heap_alloc_new w3 (.cells X 32))
  have B0 := Lib.hid (B0.out.trans (hb.mono B0.out.size))
  have GA := Lib.hid ((hb.block _ (blk_lt GA.out)).trans GA.out)
  have GM := Lib.hid ((hb.block _ (blk_lt GM.out)).trans GM.out)
  have NR := Lib.hid (NR.out.below hb)
  have MR := Lib.hid (MR.out.below hb)
  have SB := Lib.hid (SB.out.below hb)
  have DX := Lib.hid (DX.out.below hb)
  clear hb
  go_upto_region 4 with (refine wpList_store_row rfl 32 (.tmp 7) (.tmp 37) rfl w3.heap.size X rfl rfl 32 Zd GN.out Igx.out Sgx.out Ogx.out ?_)
  rw [RW.out]
  try simp only [Act.put]
  clear GN RW
  generalize w3.alloc (.cells X 32) = w4 at *
  generalize w3.heap.size = gx at *
  go_wp2_with (refine wpList_load_row rfl 26 (.tmp 4) rfl (w.heap.size + 1) rfl 26 M (0, 0) _ GM.out Try.underlying26 rfl IM.out ?_)
  refine (ACm.out _ MR.out).mono ?_
  rintro e w5 ⟨Y, rfl, hd, hb⟩
  have B0 := Lib.hid (B0.out.trans (hb.mono B0.out.size))
  have GA := Lib.hid ((hb.block _ (blk_lt GA.out)).trans GA.out)
  have GM := Lib.hid ((hb.block _ (blk_lt GM.out)).trans GM.out)
  have NR := Lib.hid (NR.out.below hb)
  have MR := Lib.hid (MR.out.below hb)
  have SB := Lib.hid (SB.out.below hb)
  have DX := Lib.hid (DX.out.below hb)
  have GX := Lib.hid ((hb.block _ (blk_lt GX.out)).trans GX.out)
  have DY := Lib.hid hd
  clear hd
  clear hb
  have Sgy : Hid (Zd.size = Y.size) := by show _ = _; rw [ZdN.out, DY.out.two]
  have Igy := Lib.hid DY.out.info
  have Ogy := Lib.hid DY.out.one
  have GN := Lib.hid (heap_alloc_new w5 (.cells Zd 32))
  have RW := Lib.hid (alloc_setRowT w5 Zd Y 32 _ rfl)
  have hb : Below w5.heap.size w5 (w5.alloc (.cells Y 32)) := (Below.refl _ _).alloc (Nat.le_refl _) _
  have GY := Lib.hid (heap_alloc_new w5 (.cells Y 32))
  have B0 := Lib.hid (B0.out.trans (hb.mono B0.out.size))
  have GA := Lib.hid ((hb.block _ (blk_lt GA.out)).trans GA.out)
  have GM := Lib.hid ((hb.block _ (blk_lt GM.out)).trans GM.out)
  have NR := Lib.hid (NR.out.below hb)
  have MR := Lib.hid (MR.out.below hb)
  have SB := Lib.hid (SB.out.below hb)
  have DX := Lib.hid (DX.out.below hb)
  have GX := Lib.hid ((hb.block _ (blk_lt GX.out)).trans GX.out)
  have DY := Lib.hid (DY.out.below hb)
  clear hb
  go_upto_region 5 with (refine wpList_store_row rfl 32 (.tmp 9) (.tmp 42) rfl w5.heap.size Y rfl rfl 32 Zd GN.out Igy.out Sgy.out Ogy.out ?_)
  rw [RW.out]
  try simp only [Act.put]
  clear GN RW
  generalize w5.alloc (.cells Y 32) = w6 at *
  generalize w5.heap.size = gy at *
  go_wp2_with (refine wpList_load_row rfl 26 (.tmp 3) rfl w.heap.size rfl 26 A (0, 0) _ GA.out Try.underlying26 rfl IA.out ?_)
  refine (WR.out _ _ NR.out).mono ?_
  rintro e w7 ⟨q, rfl, hq, hb⟩
  have B0 := Lib.hid (B0.out.trans (hb.mono B0.out.size))
  have GA := Lib.hid ((hb.block _ (blk_lt GA.out)).trans GA.out)
  have GM := Lib.hid ((hb.block _ (blk_lt GM.out)).trans GM.out)
  have NR := Lib.hid (NR.out.below hb)
  have MR := Lib.hid (MR.out.below hb)
  have SB := Lib.hid (SB.out.below hb)
  have DX := Lib.hid (DX.out.below hb)
  have GX := Lib.hid ((hb.block _ (blk_lt GX.out)).trans GX.out)
  have DY := Lib.hid (DY.out.below hb)
  have GY := Lib.hid ((hb.block _ (blk_lt GY.out)).trans GY.out)
  have SW := Lib.hid hq
  obtain ⟨qx, qc, rfl, qm⟩ := hq.form
  clear hq
  clear hb
  go_upto_region 7 with (fail)
  go_wp2_with (refine wpList_load_row rfl 26 (.tmp 3) rfl w.heap.size rfl 26 A (0, 0) _ GA.out Try.underlying26 rfl IA.out ?_)
  refine (RT.out _ _ NR.out).mono ?_
  rintro e w9 ⟨rfl, hb⟩
  have B0 := Lib.hid (B0.out.trans (hb.mono B0.out.size))
  have GA := Lib.hid ((hb.block _ (blk_lt GA.out)).trans GA.out)
  have GM := Lib.hid ((hb.block _ (blk_lt GM.out)).trans GM.out)
  have NR := Lib.hid (NR.out.below hb)
  have MR := Lib.hid (MR.out.below hb)
  have SB := Lib.hid (SB.out.below hb)
  have DX := Lib.hid (DX.out.below hb)
  have GX := Lib.hid ((hb.block _ (blk_lt GX.out)).trans GX.out)
  have DY := Lib.hid (DY.out.below hb)
  have GY := Lib.hid ((hb.block _ (blk_lt GY.out)).trans GY.out)
  have SW := Lib.hid (SW.out.below hb)
  clear hb
  go_upto_region 9 with (fail)
  go_wp2_with (refine wpList_load_row rfl 32 (.tmp 7) rfl gx rfl 32 X (0, 0) _ GX.out Try.underlying32 rfl Igx.out ?_)
  refine (WD.out _ _ DX.out).mono ?_
  rintro e wa ⟨q2, rfl, hq, hb⟩
  have B0 := Lib.hid (B0.out.trans (hb.mono B0.out.size))
  have GA := Lib.hid ((hb.block _ (blk_lt GA.out)).trans GA.out)
  have GM := Lib.hid ((hb.block _ (blk_lt GM.out)).trans GM.out)
  have NR := Lib.hid (NR.out.below hb)
  have MR := Lib.hid (MR.out.below hb)
  have SB := Lib.hid (SB.out.below hb)
  have DX := Lib.hid (DX.out.below hb)
  have GX := Lib.hid ((hb.block _ (blk_lt GX.out)).trans GX.out)
  have DY := Lib.hid (DY.out.below hb)
  have GY := Lib.hid ((hb.block _ (blk_lt GY.out)).trans GY.out)
  have SW := Lib.hid (SW.out.below hb)
  have SWT := Lib.hid hq
  obtain ⟨rx, rc2, rfl, rm⟩ := hq.form
  clear hq
  clear hb
  go_upto_region 12 with (fail)
  have NRa := NR
  have MRa := MR
  have SBa := SB
  have DXa := DX
  have DYa := DY
  have GXa := GX
  have GYa := GY
  have GAa := GA
  have GMa := GM
  have B0a := B0
  go_wp2_with fail
  refine (CP.out _ _ SB.out).mono ?_
  rintro e wb ⟨xo, co, rfl, hown, hb⟩
  have B0 := Lib.hid (B0.out.trans (hb.mono B0.out.size))
  have GA := Lib.hid ((hb.block _ (blk_lt GA.out)).trans GA.out)
  have GM := Lib.hid ((hb.block _ (blk_lt GM.out)).trans GM.out)
  have NR := Lib.hid (NR.out.below hb)
  have MR := Lib.hid (MR.out.below hb)
  have SB := Lib.hid (SB.out.below hb)
  have DX := Lib.hid (DX.out.below hb)
  have GX := Lib.hid ((hb.block _ (blk_lt GX.out)).trans GX.out)
  have DY := Lib.hid (DY.out.below hb)
  have GY := Lib.hid ((hb.block _ (blk_lt GY.out)).trans GY.out)
  have SW := Lib.hid (SW.out.below hb)
  have SWT := Lib.hid (SWT.out.below hb)
  have HBC := Lib.hid hb
  have OWN := Lib.hid hown
  clear hown
  clear hb
  go_upto_region 13 with (fail)
  go_wp2_with fail
  have OWNb := OWN
  refine (RF.out _ _ OWN.out.sees).mono ?_
  rintro e wc ⟨U, rfl, hd, hfr, hb⟩
  have B0 := Lib.hid (B0.out.trans (hb.mono B0.out.size))
  have GA := Lib.hid ((hb.block _ (blk_lt GA.out)).trans GA.out)
  have GM := Lib.hid ((hb.block _ (blk_lt GM.out)).trans GM.out)
  have NR := Lib.hid (NR.out.below hb)
  have MR := Lib.hid (MR.out.below hb)
  have SB := Lib.hid (SB.out.below hb)
  have DX := Lib.hid (DX.out.below hb)
  have GX := Lib.hid ((hb.block _ (blk_lt GX.out)).trans GX.out)
  have DY := Lib.hid (DY.out.below hb)
  have GY := Lib.hid ((hb.block _ (blk_lt GY.out)).trans GY.out)
  have SW := Lib.hid (SW.out.below hb)
  have SWT := Lib.hid (SWT.out.below hb)
  have HBC := Lib.hid (HBC.out.trans (hb.mono HBC.out.size))
  have OWN := Lib.hid (OWN.out.below hb)
  have NG := Lib.hid hd
  have FG := Lib.hid hfr
  have OLT : Hid (∀ k, (Value.slice xo xs.length co).ownBlock = some k → k < wb.heap.size) := fun k e => (OWNb.out.2.lt k e).2
  have GUle := Lib.hid hb.size
  clear hd hfr
  clear hb
  have Sgu : Hid (Zn.size = U.size) := by show _ = _; rw [ZnN.out, NG.out.four]
  have Igu := Lib.hid NG.out.info
  have Ogu := Lib.hid NG.out.one
  have GN := Lib.hid (heap_alloc_new wc (.cells Zn 26))
  have RW := Lib.hid (alloc_setRowT wc Zn U 26 _ rfl)
  have hb : Below wc.heap.size wc (wc.alloc (.cells U 26)) := (Below.refl _ _).alloc (Nat.le_refl _) _
  have GU := Lib.hid (heap_alloc_new wc (.cells U 26))
  have B0 := Lib.hid (B0.out.trans (hb.mono B0.out.size))
  have GA := Lib.hid ((hb.block _ (blk_lt GA.out)).trans GA.out)
  have GM := Lib.hid ((hb.block _ (blk_lt GM.out)).trans GM.out)
  have NR := Lib.hid (NR.out.below hb)
  have MR := Lib.hid (MR.out.below hb)
  have SB := Lib.hid (SB.out.below hb)
  have DX := Lib.hid (DX.out.below hb)
  have GX := Lib.hid ((hb.block _ (blk_lt GX.out)).trans GX.out)
  have DY := Lib.hid (DY.out.below hb)
  have GY := Lib.hid ((hb.block _ (blk_lt GY.out)).trans GY.out)
  have SW := Lib.hid (SW.out.below hb)
  have SWT := Lib.hid (SWT.out.below hb)
  have HBC := Lib.hid (HBC.out.trans (hb.mono HBC.out.size))
  have OWN := Lib.hid (OWN.out.below hb)
  have NG := Lib.hid (NG.out.below hb)
  clear hb
  go_upto_region 14 with (refine wpList_store_row rfl 26 (.tmp 17) (.tmp 99) rfl wc.heap.size U rfl rfl 26 Zn GN.out Igu.out Sgu.out Ogu.out ?_)
  rw [RW.out]
  try simp only [Act.put]
  clear GN RW
  generalize wc.alloc (.cells U 26) = wd at *
  generalize wc.heap.size = gu at *
  go_wp2_with fail
  have GUlt : Hid (wb.heap.size ≤ gu) := GUle.out
  have RGU : Hid (∀ k, (Value.slice xo xs.length co).ownBlock = some k → k ≠ gu) := fun k e => by have := OLT.out k e; have := GUlt.out; omega
  refine (show Code.wp _ _ _ _ _ from ?_)
  go_loopw [19] (fun v19 wr => ∃ (i : Nat) (zs : List Int), i ≤ xs.length ∧ v19 = .int .i64 (i : Int) ∧ zs.length = xs.length ∧ Own wr wa.heap.size (.slice xo xs.length co) zs ∧ wd.grownBy wr (Value.slice xo xs.length co).ownBlock ∧ Below wa.heap.size wa wr) (fun v19 _ => xs.length - (intOf v19).toNat)
  case atStart => exact ⟨0, xs, by omega, rfl, rfl, OWN.out, oc.grownBy_refl _ _, HBC.out⟩
  case round =>
    obtain ⟨i, zs, hi, rfl, hzl, hown, hgr, hbc⟩ := hrel
    by_cases hlt : i < xs.length
    · have hii : (i : Int) < (xs.length : Int) := by omega
      obtain ⟨g, rfl, hag, hcell, hfz, hset⟩ := own_set hown (show i < zs.length by omega)
      have hby := hown.1.nth i
      have hx8 := oc.xor8_zero (nth zs i) 255 hby (by decide)
      have hset := hset _ hx8.2
      have HSET := Lib.hid hset
      have HGR := Lib.hid (grown_trans hgr hset.2)
      have HBC2 := Lib.hid (hbc.setCell (p := ⟨g, i, none⟩) hag (.int .u8 (bits .xor .u8 (nth zs i) 255)))
      have k0 := hby.1
      have k1 := hby.2
      have HZL := Lib.hid hzl
      clear hown hgr hbc hset hx8 hby hzl
      go_wp2_with fail
      go_roundw
      case rel => exact ⟨i + 1, zs.set i (bits .xor .u8 (nth zs i) 255), by omega, by go_num, by rw [List.length_set]; exact HZL.out, HSET.out.1, HGR.out, HBC2.out⟩
      case measure => simp [intOf]; omega
    · have hge : ¬ (i : Int) < (xs.length : Int) := by omega
      have HB2 := Lib.hid hbc
      have GU := Lib.hid ((hgr.block _ (blk_lt GU.out) (fun e => RGU.out gu e.symm rfl)).trans GU.out)
      have NG := Lib.hid (NG.out.grown FG.out hgr OLT.out)
      clear hown hgr hbc hzl
      have NR := Lib.hid (NRa.out.below HB2.out)
      have MR := Lib.hid (MRa.out.below HB2.out)
      have SB := Lib.hid (SBa.out.below HB2.out)
      have DX := Lib.hid (DXa.out.below HB2.out)
      have DY := Lib.hid (DYa.out.below HB2.out)
      have GX := Lib.hid ((HB2.out.block _ (blk_lt GXa.out)).trans GXa.out)
      have GY := Lib.hid ((HB2.out.block _ (blk_lt GYa.out)).trans GYa.out)
      have GA := Lib.hid ((HB2.out.block _ (blk_lt GAa.out)).trans GAa.out)
      have GM := Lib.hid ((HB2.out.block _ (blk_lt GMa.out)).trans GMa.out)
      have B0 := Lib.hid (B0a.out.trans (HB2.out.mono B0a.out.size))
      clear NRa MRa SBa DXa DYa GXa GYa GAa GMa B0a
      go_upto_region 18 with (fail)
      go_wp2_with fail
      refine (RDC.out _ _ SB.out).mono ?_
      rintro e we ⟨O, rfl, hd, hb⟩
      have B0 := Lib.hid (B0.out.trans (hb.mono B0.out.size))
      have GA := Lib.hid ((hb.block _ (blk_lt GA.out)).trans GA.out)
      have GM := Lib.hid ((hb.block _ (blk_lt GM.out)).trans GM.out)
      have NR := Lib.hid (NR.out.below hb)
      have MR := Lib.hid (MR.out.below hb)
      have SB := Lib.hid (SB.out.below hb)
      have DX := Lib.hid (DX.out.below hb)
      have GX := Lib.hid ((hb.block _ (blk_lt GX.out)).trans GX.out)
      have DY := Lib.hid (DY.out.below hb)
      have GY := Lib.hid ((hb.block _ (blk_lt GY.out)).trans GY.out)
      have NG := Lib.hid (NG.out.below hb)
      have GU := Lib.hid ((hb.block _ (blk_lt GU.out)).trans GU.out)
      have DZ := Lib.hid hd
      clear hd
      clear hb
      have Sgz : Hid (Zd.size = O.size) := by show _ = _; rw [ZdN.out, DZ.out.two]
      have Igz := Lib.hid DZ.out.info
      have Ogz := Lib.hid DZ.out.one
      have GN := Lib.hid (heap_alloc_new we (.cells Zd 32))
      have RW := Lib.hid (alloc_setRowT we Zd O 32 _ rfl)
      have hb : Below we.heap.size we (we.alloc (.cells O 32)) := (Below.refl _ _).alloc (Nat.le_refl _) _
      have GZ := Lib.hid (heap_alloc_new we (.cells O 32))
      have B0 := Lib.hid (B0.out.trans (hb.mono B0.out.size))
      have GA := Lib.hid ((hb.block _ (blk_lt GA.out)).trans GA.out)
      have GM := Lib.hid ((hb.block _ (blk_lt GM.out)).trans GM.out)
      have NR := Lib.hid (NR.out.below hb)
      have MR := Lib.hid (MR.out.below hb)
      have SB := Lib.hid (SB.out.below hb)
      have DX := Lib.hid (DX.out.below hb)
      have GX := Lib.hid ((hb.block _ (blk_lt GX.out)).trans GX.out)
      have DY := Lib.hid (DY.out.below hb)
      have GY := Lib.hid ((hb.block _ (blk_lt GY.out)).trans GY.out)
      have NG := Lib.hid (NG.out.below hb)
      have GU := Lib.hid ((hb.block _ (blk_lt GU.out)).trans GU.out)
      have DZ := Lib.hid (DZ.out.below hb)
      clear hb
      go_upto_region 19 with (refine wpList_store_row rfl 32 (.tmp 20) (.tmp 118) rfl we.heap.size O rfl rfl 32 Zd GN.out Igz.out Sgz.out Ogz.out ?_)
      rw [RW.out]
      try simp only [Act.put]
      clear GN RW
      generalize we.alloc (.cells O 32) = wf at *
      generalize we.heap.size = gz at *
      go_wp2_with (first | (refine wpList_load_met rfl 26 (.tmp 17) rfl gu rfl 26 U (0, 0) _ GU.out Try.underlying26 ⟨_, rfl⟩ Igu.out ?_) | (refine wpList_blank_met rfl 26 rfl (BZ.out _) ?_))
      refine (SLC.out _ _ _ NG.out (NZ.out _)).mono ?_
      rintro e wg ⟨rfl, hb⟩
      have B0 := Lib.hid (B0.out.trans (hb.mono B0.out.size))
      have GA := Lib.hid ((hb.block _ (blk_lt GA.out)).trans GA.out)
      have GM := Lib.hid ((hb.block _ (blk_lt GM.out)).trans GM.out)
      have NR := Lib.hid (NR.out.below hb)
      have MR := Lib.hid (MR.out.below hb)
      have SB := Lib.hid (SB.out.below hb)
      have DX := Lib.hid (DX.out.below hb)
      have GX := Lib.hid ((hb.block _ (blk_lt GX.out)).trans GX.out)
      have DY := Lib.hid (DY.out.below hb)
      have GY := Lib.hid ((hb.block _ (blk_lt GY.out)).trans GY.out)
      have NG := Lib.hid (NG.out.below hb)
      have GU := Lib.hid ((hb.block _ (blk_lt GU.out)).trans GU.out)
      have DZ := Lib.hid (DZ.out.below hb)
      have GZ := Lib.hid ((hb.block _ (blk_lt GZ.out)).trans GZ.out)
      clear hb
      go_upto_region 21 with (fail)
      refine wp_region_held_drew (S := fun W => Below wg.heap.size wg W) (by kernel_rfl) ((Below.refl _ _).drew) (fun hS => ?_)
      have hb0 : Below wg.heap.size wg wg.drew := (Below.refl _ _).drew
      have qB0 := B0.out.trans (hb0.mono B0.out.size)
      clear hb0 B0
      generalize wg.drew = Wzs at hS qB0 ⊢
      have B0 := Lib.hid qB0
      clear qB0
      refine wpAnyH_ready (rs := [0]) (by kernel_rfl) (by simp) ?_
      refine' (AllReadyH.cons ?hoc0z (fun K hK => ?stc0z) AllReadyH.nil)
      case hoc0z => (simp only [List.getElem?_toArray, List.getElem?_cons_zero]; rfl)
      go_simp
      refine (AL.out Wzs).mono ?_
      rintro e Wzx0 ⟨rfl, hb⟩
      have B0 := Lib.hid (B0.out.trans (hb.mono B0.out.size))
      go_wp2_with fail
      refine hK.out _ _ (hS.trans (hb.mono hS.size)) (fun hHeld => ?_)
      clear hK K
      try simp only [Act.put, List.setIfInBounds_toArray, List.set_cons_succ, List.set_cons_zero]
      clear hS
      have hS := hHeld
      clear hHeld
      clear hb
      refine' wpAnyH_take (i := 1) ?h1x1zx0 ?hsx1zx0 ?hfx1zx0 ?hrx1zx0 ?hQx1zx0 (Or.inl ⟨?hwx1zx0, ?hyx1zx0⟩) hS ?restx1zx0
      case h1x1zx0 => (simp only [List.getElem?_toArray, List.getElem?_cons_succ, List.getElem?_cons_zero]; rfl)
      case hsx1zx0 | hfx1zx0 | hrx1zx0 => kernel_rfl
      case hQx1zx0 => exact fun _ _ _ h => h
      case hwx1zx0 => rfl
      case hyx1zx0 =>
        intro W hW
        go_simp
        try with_reducible rfl
      simp only [Act.put, List.setIfInBounds_toArray, List.set_cons_succ, List.set_cons_zero]
      refine' wpAnyH_take (i := 2) ?h1x2zx0 ?hsx2zx0 ?hfx2zx0 ?hrx2zx0 ?hQx2zx0 (Or.inl ⟨?hwx2zx0, ?hyx2zx0⟩) hS ?restx2zx0
      case h1x2zx0 => (simp only [List.getElem?_toArray, List.getElem?_cons_succ, List.getElem?_cons_zero]; rfl)
      case hsx2zx0 | hfx2zx0 | hrx2zx0 => kernel_rfl
      case hQx2zx0 => exact fun _ _ _ h => h
      case hwx2zx0 => rfl
      case hyx2zx0 =>
        intro W hW
        go_simp
        try with_reducible rfl
      simp only [Act.put, List.setIfInBounds_toArray, List.set_cons_succ, List.set_cons_zero]
      refine' wpAnyH_take (i := 3) ?h1x3zx0 ?hsx3zx0 ?hfx3zx0 ?hrx3zx0 ?hQx3zx0 (Or.inl ⟨?hwx3zx0, ?hyx3zx0⟩) hS ?restx3zx0
      case h1x3zx0 => (simp only [List.getElem?_toArray, List.getElem?_cons_succ, List.getElem?_cons_zero]; rfl)
      case hsx3zx0 | hfx3zx0 | hrx3zx0 => kernel_rfl
      case hQx3zx0 => exact fun _ _ _ h => h
      case hwx3zx0 => rfl
      case hyx3zx0 =>
        intro W hW
        go_simp
        try with_reducible rfl
      simp only [Act.put, List.setIfInBounds_toArray, List.set_cons_succ, List.set_cons_zero]
      refine' wpAnyH_take (i := 4) ?h1x4zx0 ?hsx4zx0 ?hfx4zx0 ?hrx4zx0 ?hQx4zx0 (Or.inl ⟨?hwx4zx0, ?hyx4zx0⟩) hS ?restx4zx0
      case h1x4zx0 => (simp only [List.getElem?_toArray, List.getElem?_cons_succ, List.getElem?_cons_zero]; rfl)
      case hsx4zx0 | hfx4zx0 | hrx4zx0 => kernel_rfl
      case hQx4zx0 => exact fun _ _ _ h => h
      case hwx4zx0 => rfl
      case hyx4zx0 =>
        intro W hW
        go_simp
        try with_reducible rfl
      simp only [Act.put, List.setIfInBounds_toArray, List.set_cons_succ, List.set_cons_zero]
      refine' wpAnyH_take (i := 5) ?h1x5zx0 ?hsx5zx0 ?hfx5zx0 ?hrx5zx0 ?hQx5zx0 (Or.inr ⟨?hwx5zx0, rfl⟩) hS ?restx5zx0
      case h1x5zx0 => (simp only [List.getElem?_toArray, List.getElem?_cons_succ, List.getElem?_cons_zero]; rfl)
      case hsx5zx0 | hfx5zx0 | hrx5zx0 => kernel_rfl
      case hQx5zx0 => exact fun _ _ _ h => h
      case hwx5zx0 => rfl
      simp only [Act.put, List.setIfInBounds_toArray, List.set_cons_succ, List.set_cons_zero]
      refine' wpAnyH_take (i := 6) ?h1x6zx0 ?hsx6zx0 ?hfx6zx0 ?hrx6zx0 ?hQx6zx0 (Or.inr ⟨?hwx6zx0, rfl⟩) hS ?restx6zx0
      case h1x6zx0 => (simp only [List.getElem?_toArray, List.getElem?_cons_succ, List.getElem?_cons_zero]; rfl)
      case hsx6zx0 | hfx6zx0 | hrx6zx0 => kernel_rfl
      case hQx6zx0 => exact fun _ _ _ h => h
      case hwx6zx0 => rfl
      simp only [Act.put, List.setIfInBounds_toArray, List.set_cons_succ, List.set_cons_zero]
      refine' wpAnyH_take (i := 7) ?h1x7zx0 ?hsx7zx0 ?hfx7zx0 ?hrx7zx0 ?hQx7zx0 (Or.inl ⟨?hwx7zx0, ?hyx7zx0⟩) hS ?restx7zx0
      case h1x7zx0 => (simp only [List.getElem?_toArray, List.getElem?_cons_succ, List.getElem?_cons_zero]; rfl)
      case hsx7zx0 | hfx7zx0 | hrx7zx0 => kernel_rfl
      case hQx7zx0 => exact fun _ _ _ h => h
      case hwx7zx0 => rfl
      case hyx7zx0 =>
        intro W hW
        go_simp
        try with_reducible rfl
      simp only [Act.put, List.setIfInBounds_toArray, List.set_cons_succ, List.set_cons_zero]
      refine' wpAnyH_take (i := 8) ?h1x8zx0 ?hsx8zx0 ?hfx8zx0 ?hrx8zx0 ?hQx8zx0 (Or.inl ⟨?hwx8zx0, ?hyx8zx0⟩) hS ?restx8zx0
      case h1x8zx0 => (simp only [List.getElem?_toArray, List.getElem?_cons_succ, List.getElem?_cons_zero]; rfl)
      case hsx8zx0 | hfx8zx0 | hrx8zx0 => kernel_rfl
      case hQx8zx0 => exact fun _ _ _ h => h
      case hwx8zx0 => rfl
      case hyx8zx0 =>
        intro W hW
        go_simp
        try with_reducible rfl
      simp only [Act.put, List.setIfInBounds_toArray, List.set_cons_succ, List.set_cons_zero]
      refine' wpAnyH_take (i := 9) ?h1x9zx0 ?hsx9zx0 ?hfx9zx0 ?hrx9zx0 ?hQx9zx0 (Or.inr ⟨?hwx9zx0, rfl⟩) hS ?restx9zx0
      case h1x9zx0 => (simp only [List.getElem?_toArray, List.getElem?_cons_succ, List.getElem?_cons_zero]; rfl)
      case hsx9zx0 | hfx9zx0 | hrx9zx0 => kernel_rfl
      case hQx9zx0 => exact fun _ _ _ h => h
      case hwx9zx0 => rfl
      simp only [Act.put, List.setIfInBounds_toArray, List.set_cons_succ, List.set_cons_zero]
      refine' wpAnyH_take (i := 10) ?h1x10zx0 ?hsx10zx0 ?hfx10zx0 ?hrx10zx0 ?hQx10zx0 (Or.inr ⟨?hwx10zx0, rfl⟩) hS ?restx10zx0
      case h1x10zx0 => (simp only [List.getElem?_toArray, List.getElem?_cons_succ, List.getElem?_cons_zero]; rfl)
      case hsx10zx0 | hfx10zx0 | hrx10zx0 => kernel_rfl
      case hQx10zx0 => exact fun _ _ _ h => h
      case hwx10zx0 => rfl
      simp only [Act.put, List.setIfInBounds_toArray, List.set_cons_succ, List.set_cons_zero]
      refine' wpAnyH_take (i := 11) ?h1x11zx0 ?hsx11zx0 ?hfx11zx0 ?hrx11zx0 ?hQx11zx0 (Or.inr ⟨?hwx11zx0, rfl⟩) hS ?restx11zx0
      case h1x11zx0 => (simp only [List.getElem?_toArray, List.getElem?_cons_succ, List.getElem?_cons_zero]; rfl)
      case hsx11zx0 | hfx11zx0 | hrx11zx0 => kernel_rfl
      case hQx11zx0 => exact fun _ _ _ h => h
      case hwx11zx0 => rfl
      simp only [Act.put, List.setIfInBounds_toArray, List.set_cons_succ, List.set_cons_zero]
      refine' wpAnyH_take (i := 12) ?h1x12zx0 ?hsx12zx0 ?hfx12zx0 ?hrx12zx0 ?hQx12zx0 (Or.inr ⟨?hwx12zx0, rfl⟩) hS ?restx12zx0
      case h1x12zx0 => (simp only [List.getElem?_toArray, List.getElem?_cons_succ, List.getElem?_cons_zero]; rfl)
      case hsx12zx0 | hfx12zx0 | hrx12zx0 => kernel_rfl
      case hQx12zx0 => exact fun _ _ _ h => h
      case hwx12zx0 => rfl
      simp only [Act.put, List.setIfInBounds_toArray, List.set_cons_succ, List.set_cons_zero]
      refine' wpAnyH_take (i := 13) ?h1x13zx0 ?hsx13zx0 ?hfx13zx0 ?hrx13zx0 ?hQx13zx0 (Or.inr ⟨?hwx13zx0, rfl⟩) hS ?restx13zx0
      case h1x13zx0 => (simp only [List.getElem?_toArray, List.getElem?_cons_succ, List.getElem?_cons_zero]; rfl)
      case hsx13zx0 | hfx13zx0 | hrx13zx0 => kernel_rfl
      case hQx13zx0 => exact fun _ _ _ h => h
      case hwx13zx0 => rfl
      simp only [Act.put, List.setIfInBounds_toArray, List.set_cons_succ, List.set_cons_zero]
      refine' wpAnyH_take (i := 14) ?h1x14zx0 ?hsx14zx0 ?hfx14zx0 ?hrx14zx0 ?hQx14zx0 (Or.inr ⟨?hwx14zx0, rfl⟩) hS ?restx14zx0
      case h1x14zx0 => (simp only [List.getElem?_toArray, List.getElem?_cons_succ, List.getElem?_cons_zero]; rfl)
      case hsx14zx0 | hfx14zx0 | hrx14zx0 => kernel_rfl
      case hQx14zx0 => exact fun _ _ _ h => h
      case hwx14zx0 => rfl
      simp only [Act.put, List.setIfInBounds_toArray, List.set_cons_succ, List.set_cons_zero]
      refine' wpAnyH_take (i := 15) ?h1x15zx0 ?hsx15zx0 ?hfx15zx0 ?hrx15zx0 ?hQx15zx0 (Or.inr ⟨?hwx15zx0, rfl⟩) hS ?restx15zx0
      case h1x15zx0 => (simp only [List.getElem?_toArray, List.getElem?_cons_succ, List.getElem?_cons_zero]; rfl)
      case hsx15zx0 | hfx15zx0 | hrx15zx0 => kernel_rfl
      case hQx15zx0 => exact fun _ _ _ h => h
      case hwx15zx0 => rfl
      simp only [Act.put, List.setIfInBounds_toArray, List.set_cons_succ, List.set_cons_zero]
      refine' wpAnyH_take (i := 16) ?h1x16zx0 ?hsx16zx0 ?hfx16zx0 ?hrx16zx0 ?hQx16zx0 (Or.inl ⟨?hwx16zx0, ?hyx16zx0⟩) hS ?restx16zx0
      case h1x16zx0 => (simp only [List.getElem?_toArray, List.getElem?_cons_succ, List.getElem?_cons_zero]; rfl)
      case hsx16zx0 | hfx16zx0 | hrx16zx0 => kernel_rfl
      case hQx16zx0 => exact fun _ _ _ h => h
      case hwx16zx0 => rfl
      case hyx16zx0 =>
        intro W hW
        go_simp
        try with_reducible rfl
      simp only [Act.put, List.setIfInBounds_toArray, List.set_cons_succ, List.set_cons_zero]
      refine' wpAnyH_take (i := 17) ?h1x17zx0 ?hsx17zx0 ?hfx17zx0 ?hrx17zx0 ?hQx17zx0 (Or.inl ⟨?hwx17zx0, ?hyx17zx0⟩) hS ?restx17zx0
      case h1x17zx0 => (simp only [List.getElem?_toArray, List.getElem?_cons_succ, List.getElem?_cons_zero]; rfl)
      case hsx17zx0 | hfx17zx0 | hrx17zx0 => kernel_rfl
      case hQx17zx0 => exact fun _ _ _ h => h
      case hwx17zx0 => rfl
      case hyx17zx0 =>
        intro W hW
        go_simp
        try with_reducible rfl
      simp only [Act.put, List.setIfInBounds_toArray, List.set_cons_succ, List.set_cons_zero]
      refine' wpAnyH_take (i := 18) ?h1x18zx0 ?hsx18zx0 ?hfx18zx0 ?hrx18zx0 ?hQx18zx0 (Or.inl ⟨?hwx18zx0, ?hyx18zx0⟩) hS ?restx18zx0
      case h1x18zx0 => (simp only [List.getElem?_toArray, List.getElem?_cons_succ, List.getElem?_cons_zero]; rfl)
      case hsx18zx0 | hfx18zx0 | hrx18zx0 => kernel_rfl
      case hQx18zx0 => exact fun _ _ _ h => h
      case hwx18zx0 => rfl
      case hyx18zx0 =>
        intro W hW
        go_simp
        try with_reducible rfl
      simp only [Act.put, List.setIfInBounds_toArray, List.set_cons_succ, List.set_cons_zero]
      refine wpAnyH_done (by kernel_rfl) ?_ _
      go_wp2_with fail
      go_ret
      exact ⟨rfl, B0.out⟩
set_option maxRecDepth 100000 in
set_option maxHeartbeats 32000000 in
theorem bytes_m001xx (A M : Array Value) (n m : NV) (xs : List Int) (v : Value) (w : World) (hn : ND w (.agg A) n) (hm : ND w (.agg M) m) (hs : Sees w v xs) (fn : ∀ p ∈ n.qs, 0 ≤ p.1 ∧ p.1 ≤ 4294967295) (fm : ∀ p ∈ m.qs, 0 ≤ p.1 ∧ p.1 ≤ 4294967295) (hgn : greatB n = false) (hgm : greatB m = false) (hl : xs.length ≤ 2000) (hok : okN n = false) (his : isN xs = true) : Calls Try.prog 3 #[.agg A, .agg M, v] w (AliveP w) := by
  obtain ⟨xv, cv, rfl, h63⟩ := hs.form
  have IA := Lib.hid hn.info
  have IM := Lib.hid hm.info
  have AL := Lib.hid alive8
  obtain ⟨W1, hW1⟩ : ∃ W1, W1 = (w.alloc (.cells A 26)).alloc (.cells M 26) := ⟨_, rfl⟩
  have b0 : Below w.heap.size w (w.alloc (.cells A 26)) := (Below.refl _ _).alloc (Nat.le_refl _) _
  have b1 : Below w.heap.size w W1 := by rw [hW1]; exact b0.alloc (by simp) _
  have GA : Hid (W1.heap[w.heap.size]? = some (.cells A 26 (0, 0))) := by show _ = _; rw [hW1, Below.heap_alloc _ _ _ (by simp)]; exact heap_alloc_new w _
  have GM : Hid (W1.heap[w.heap.size + 1]? = some (.cells M 26 (0, 0))) := by
    show _ = _
    rw [hW1]
    have := heap_alloc_new (w.alloc (.cells A 26)) (.cells M 26)
    simpa using this
  have NR := Lib.hid (hn.below b1)
  have MR := Lib.hid (hm.below b1)
  have SB := Lib.hid (hs.below b1)
  have B0 := Lib.hid b1
  have HW1 := Lib.hid hW1
  have HBY := Lib.hid hs.1
  obtain ⟨kb, hkm⟩ : ∃ kb, okN m = kb := ⟨_, rfl⟩
  have GTn : Hid (∀ v W, ND W v n → Calls Try.prog 7 #[v] W fun e w' => e = .returned (.bool false) ∧ Below W.heap.size W w') := fun v W h => by have := great v n W h; rw [hgn] at this; exact this
  have GTm : Hid (∀ v W, ND W v m → Calls Try.prog 7 #[v] W fun e w' => e = .returned (.bool false) ∧ Below W.heap.size W w') := fun v W h => by have := great v m W h; rw [hgm] at this; exact this
  have hll : (xs.length : Int) ≤ 2000 := by omega
  have n30 : n.ks.length ≤ 100 := by unfold greatB at hgn; simp only [Bool.or_eq_false_iff, decide_eq_false_iff_not] at hgn; omega
  have m30 : m.ks.length ≤ 100 := by unfold greatB at hgm; simp only [Bool.or_eq_false_iff, decide_eq_false_iff_not] at hgm; omega
  have np : n.okP := by obtain ⟨_, _, _, _, h1, _, _, h4, h5⟩ := hn; exact ⟨h1.1, h4, h5⟩
  have hrb : rightB n.leaf n.ks n.vs.length n.qs.length = false := by rw [right_eq np, hok]; rfl
  have xl : (asN n).l.length ≤ 100 := by
    unfold asN
    by_cases h : okN n = true
    · rw [if_pos h, parts_len]; exact n30
    · rw [if_neg h]; exact Nat.zero_le _
  have NX := Lib.hid (is_eq hs.1)
  have hisd : isD xs = true := by rw [NX.out.1, his]
  have ACn : Hid (∀ W, ND W (.agg A) n → Calls Try.prog 9 #[.agg A] W fun e w' => ∃ O, e = .returned (.tuple #[.agg O, .bool false]) ∧ DM w' (.agg O) (asN n) ∧ Below W.heap.size W w') := fun W h => by have := asD A n W h n30 fn; unfold AsP at this; rw [hok] at this; exact this
  have ACm : Hid (∀ W, ND W (.agg M) m → Calls Try.prog 9 #[.agg M] W fun e w' => ∃ O, e = .returned (.tuple #[.agg O, .bool kb]) ∧ DM w' (.agg O) (asN m) ∧ Below W.heap.size W w') := fun W h => by have := asD M m W h m30 fm; unfold AsP at this; rw [hkm] at this; exact this
  have WR : Hid (∀ v W, ND W v n → Calls Try.prog 10 #[v] W fun e w' => ∃ q, e = .returned (.tuple #[q, .int .i64 3]) ∧ Sees w' q [] ∧ Below W.heap.size W w') := fun v W h => by
    have := write v n W h fn
    unfold WriteP wrE wrV at this
    rw [hrb] at this
    exact this
  have RT : Hid (∀ v W, ND W v n → Calls Try.prog 12 #[v] W fun e w' => e = .returned (.bool false) ∧ Below W.heap.size W w') := fun v W h => by have := rightN v n W h; rw [hrb] at this; exact this
  have WD : Hid (∀ O W, DM W (.agg O) (asN n) → Calls Try.prog 13 #[.agg O] W fun e w' => ∃ q, e = .returned (.tuple #[q, .int .i64 3]) ∧ Sees w' q [] ∧ Below W.heap.size W w') := fun O W h => by
    have := writeD O (asN n) W h xl
    unfold WrP at this
    rw [(by unfold asN; rw [hok]; cases n.leaf <;> rfl : rightD (asN n) = false)] at this
    exact this
  have CP := Lib.hid (fun v W (h : Sees W v xs) => oc.copy v xs (by omega) W h)
  obtain ⟨gt, hgt⟩ : ∃ gt, gt = rdN xs := ⟨_, rfl⟩
  obtain ⟨zd, hzd⟩ : ∃ zd, zd = rdD xs := ⟨_, rfl⟩
  have RF : Hid (∀ v W, Sees W v xs → Calls Try.prog 15 #[v] W fun e w' => ∃ U, e = .returned (.tuple #[.agg U, .int .i64 0]) ∧ ND w' (.agg U) gt ∧ freshN W.heap.size (.agg U) ∧ Below W.heap.size W w') := fun v W h => by
    have := readF v xs W h (by omega)
    unfold ReadPF at this
    rw [his] at this
    refine this.mono fun e w' ⟨u, q1, q2, q3, q4⟩ => ?_
    obtain ⟨K, V, Q, rfl, _⟩ := id q2
    exact ⟨_, q1, by rw [hgt]; exact q2, q3, q4⟩
  have RDC : Hid (∀ v W, Sees W v xs → Calls Try.prog 16 #[v] W fun e w' => ∃ O, e = .returned (.tuple #[.agg O, .int .i64 0]) ∧ DM w' (.agg O) zd ∧ Below W.heap.size W w') := fun v W h => by
    have := readD v xs W h
    unfold ReadDP at this
    rw [hisd] at this
    rw [hzd]
    exact this
  have SLC : Hid (∀ U O W, ND W (.agg U) gt → DM W (.agg O) zd → Calls Try.prog 17 #[.agg U, .agg O] W fun e w' => e = .returned (.bool true) ∧ Below W.heap.size W w') := fun U O W h1 h2 => by
    rw [hgt] at h1
    rw [hzd] at h2
    have hc : (rdN xs).ks.length ≤ 100 := by
      have h9 := (isN_parts his).1
      unfold rightB at h9
      simp only [Bool.and_eq_true, decide_eq_true_eq] at h9
      obtain ⟨⟨_, h8, _⟩, _⟩ := h9
      cases hq : (rdN xs).leaf <;> rw [hq] at h8 <;> simp at h8 <;> omega
    have := sameL U O (rdN xs) (rdD xs) W h1 h1.info hc (rdN_fit hs.1) h2
    rw [(NX.out.2 his).1, (NX.out.2 his).2, show sameD (rdD xs) (rdD xs) = true by simp [sameD]] at this
    exact this
  have hz26 := z26
  have hz32 := z32
  have b26z := b26
  obtain ⟨Zn, hZn⟩ : ∃ Zn : Array Value, Zn = #[.bool false, .slice none 0 0, .slice none 0 0, .slice none 0 0] := ⟨_, rfl⟩
  obtain ⟨Zd, hZd⟩ : ∃ Zd : Array Value, Zd = #[.bool false, .slice none 0 0] := ⟨_, rfl⟩
  rw [← hZn] at hz26 b26z
  rw [← hZd] at hz32
  have BZ := Lib.hid b26z
  have NZ : Hid (∀ W, ND W (.agg Zn) nz) := fun W => by rw [hZn]; exact nd_nz W
  have ZnN : Hid (Zn.size = 4) := by show _ = _; rw [hZn]; rfl
  have ZdN : Hid (Zd.size = 2) := by show _ = _; rw [hZd]; rfl
  clear hW1 b0 b1 hn hm hs fn fm hgn hgm hl hok his hkm n30 m30 np hrb xl hisd b26z hZn hZd hgt hzd NX
  generalize asN n = xn at *
  generalize asN m = ym at *
  go_enter Try.func3, Try.ntmps3
  go_upto_region 1 with (fail)
  rw [← HW1.out]
  go_wp2_with (refine wpList_load_row rfl 26 (.tmp 3) rfl w.heap.size rfl 26 A (0, 0) _ GA.out Try.underlying26 rfl IA.out ?_)
  refine (GTn.out _ _ NR.out).mono ?_
  rintro e w1 ⟨rfl, hb⟩
  have B0 := Lib.hid (B0.out.trans (hb.mono B0.out.size))
  have GA := Lib.hid ((hb.block _ (blk_lt GA.out)).trans GA.out)
  have GM := Lib.hid ((hb.block _ (blk_lt GM.out)).trans GM.out)
  have NR := Lib.hid (NR.out.below hb)
  have MR := Lib.hid (MR.out.below hb)
  have SB := Lib.hid (SB.out.below hb)
  clear hb
  go_wp2_with (refine wpList_load_met rfl 26 (.tmp 4) rfl (w.heap.size + 1) rfl 26 M (0, 0) _ GM.out Try.underlying26 ⟨_, rfl⟩ IM.out ?_)
  refine (GTm.out _ _ MR.out).mono ?_
  rintro e w2 ⟨rfl, hb⟩
  have B0 := Lib.hid (B0.out.trans (hb.mono B0.out.size))
  have GA := Lib.hid ((hb.block _ (blk_lt GA.out)).trans GA.out)
  have GM := Lib.hid ((hb.block _ (blk_lt GM.out)).trans GM.out)
  have NR := Lib.hid (NR.out.below hb)
  have MR := Lib.hid (MR.out.below hb)
  have SB := Lib.hid (SB.out.below hb)
  clear hb
  go_upto_region 3 with (fail)
  go_wp2_with (refine wpList_load_row rfl 26 (.tmp 3) rfl w.heap.size rfl 26 A (0, 0) _ GA.out Try.underlying26 rfl IA.out ?_)
  refine (ACn.out _ NR.out).mono ?_
  rintro e w3 ⟨X, rfl, hd, hb⟩
  have B0 := Lib.hid (B0.out.trans (hb.mono B0.out.size))
  have GA := Lib.hid ((hb.block _ (blk_lt GA.out)).trans GA.out)
  have GM := Lib.hid ((hb.block _ (blk_lt GM.out)).trans GM.out)
  have NR := Lib.hid (NR.out.below hb)
  have MR := Lib.hid (MR.out.below hb)
  have SB := Lib.hid (SB.out.below hb)
  have DX := Lib.hid hd
  clear hd
  clear hb
  have Sgx : Hid (Zd.size = X.size) := by show _ = _; rw [ZdN.out, DX.out.two]
  have Igx := Lib.hid DX.out.info
  have Ogx := Lib.hid DX.out.one
  have GN := Lib.hid (heap_alloc_new w3 (.cells Zd 32))
  have RW := Lib.hid (alloc_setRowT w3 Zd X 32 _ rfl)
  have hb : Below w3.heap.size w3 (w3.alloc (.cells X 32)) := (Below.refl _ _).alloc (Nat.le_refl _) _
  have GX := Lib.hid (heap_alloc_new w3 (.cells X 32))
  have B0 := Lib.hid (B0.out.trans (hb.mono B0.out.size))
  have GA := Lib.hid ((hb.block _ (blk_lt GA.out)).trans GA.out)
  have GM := Lib.hid ((hb.block _ (blk_lt GM.out)).trans GM.out)
  have NR := Lib.hid (NR.out.below hb)
  have MR := Lib.hid (MR.out.below hb)
  have SB := Lib.hid (SB.out.below hb)
  have DX := Lib.hid (DX.out.below hb)
  clear hb
  go_upto_region 4 with (refine wpList_store_row rfl 32 (.tmp 7) (.tmp 37) rfl w3.heap.size X rfl rfl 32 Zd GN.out Igx.out Sgx.out Ogx.out ?_)
  rw [RW.out]
  try simp only [Act.put]
  clear GN RW
  generalize w3.alloc (.cells X 32) = w4 at *
  generalize w3.heap.size = gx at *
  go_wp2_with (refine wpList_load_row rfl 26 (.tmp 4) rfl (w.heap.size + 1) rfl 26 M (0, 0) _ GM.out Try.underlying26 rfl IM.out ?_)
  refine (ACm.out _ MR.out).mono ?_
  rintro e w5 ⟨Y, rfl, hd, hb⟩
  have B0 := Lib.hid (B0.out.trans (hb.mono B0.out.size))
  have GA := Lib.hid ((hb.block _ (blk_lt GA.out)).trans GA.out)
  have GM := Lib.hid ((hb.block _ (blk_lt GM.out)).trans GM.out)
  have NR := Lib.hid (NR.out.below hb)
  have MR := Lib.hid (MR.out.below hb)
  have SB := Lib.hid (SB.out.below hb)
  have DX := Lib.hid (DX.out.below hb)
  have GX := Lib.hid ((hb.block _ (blk_lt GX.out)).trans GX.out)
  have DY := Lib.hid hd
  clear hd
  clear hb
  have Sgy : Hid (Zd.size = Y.size) := by show _ = _; rw [ZdN.out, DY.out.two]
  have Igy := Lib.hid DY.out.info
  have Ogy := Lib.hid DY.out.one
  have GN := Lib.hid (heap_alloc_new w5 (.cells Zd 32))
  have RW := Lib.hid (alloc_setRowT w5 Zd Y 32 _ rfl)
  have hb : Below w5.heap.size w5 (w5.alloc (.cells Y 32)) := (Below.refl _ _).alloc (Nat.le_refl _) _
  have GY := Lib.hid (heap_alloc_new w5 (.cells Y 32))
  have B0 := Lib.hid (B0.out.trans (hb.mono B0.out.size))
  have GA := Lib.hid ((hb.block _ (blk_lt GA.out)).trans GA.out)
  have GM := Lib.hid ((hb.block _ (blk_lt GM.out)).trans GM.out)
  have NR := Lib.hid (NR.out.below hb)
  have MR := Lib.hid (MR.out.below hb)
  have SB := Lib.hid (SB.out.below hb)
  have DX := Lib.hid (DX.out.below hb)
  have GX := Lib.hid ((hb.block _ (blk_lt GX.out)).trans GX.out)
  have DY := Lib.hid (DY.out.below hb)
  clear hb
  go_upto_region 5 with (refine wpList_store_row rfl 32 (.tmp 9) (.tmp 42) rfl w5.heap.size Y rfl rfl 32 Zd GN.out Igy.out Sgy.out Ogy.out ?_)
  rw [RW.out]
  try simp only [Act.put]
  clear GN RW
  generalize w5.alloc (.cells Y 32) = w6 at *
  generalize w5.heap.size = gy at *
  go_wp2_with (refine wpList_load_row rfl 26 (.tmp 3) rfl w.heap.size rfl 26 A (0, 0) _ GA.out Try.underlying26 rfl IA.out ?_)
  refine (WR.out _ _ NR.out).mono ?_
  rintro e w7 ⟨q, rfl, hq, hb⟩
  have B0 := Lib.hid (B0.out.trans (hb.mono B0.out.size))
  have GA := Lib.hid ((hb.block _ (blk_lt GA.out)).trans GA.out)
  have GM := Lib.hid ((hb.block _ (blk_lt GM.out)).trans GM.out)
  have NR := Lib.hid (NR.out.below hb)
  have MR := Lib.hid (MR.out.below hb)
  have SB := Lib.hid (SB.out.below hb)
  have DX := Lib.hid (DX.out.below hb)
  have GX := Lib.hid ((hb.block _ (blk_lt GX.out)).trans GX.out)
  have DY := Lib.hid (DY.out.below hb)
  have GY := Lib.hid ((hb.block _ (blk_lt GY.out)).trans GY.out)
  have SW := Lib.hid hq
  obtain ⟨qx, qc, rfl, qm⟩ := hq.form
  clear hq
  clear hb
  go_upto_region 7 with (fail)
  go_wp2_with (refine wpList_load_row rfl 26 (.tmp 3) rfl w.heap.size rfl 26 A (0, 0) _ GA.out Try.underlying26 rfl IA.out ?_)
  refine (RT.out _ _ NR.out).mono ?_
  rintro e w9 ⟨rfl, hb⟩
  have B0 := Lib.hid (B0.out.trans (hb.mono B0.out.size))
  have GA := Lib.hid ((hb.block _ (blk_lt GA.out)).trans GA.out)
  have GM := Lib.hid ((hb.block _ (blk_lt GM.out)).trans GM.out)
  have NR := Lib.hid (NR.out.below hb)
  have MR := Lib.hid (MR.out.below hb)
  have SB := Lib.hid (SB.out.below hb)
  have DX := Lib.hid (DX.out.below hb)
  have GX := Lib.hid ((hb.block _ (blk_lt GX.out)).trans GX.out)
  have DY := Lib.hid (DY.out.below hb)
  have GY := Lib.hid ((hb.block _ (blk_lt GY.out)).trans GY.out)
  have SW := Lib.hid (SW.out.below hb)
  clear hb
  go_upto_region 9 with (fail)
  go_wp2_with (refine wpList_load_row rfl 32 (.tmp 7) rfl gx rfl 32 X (0, 0) _ GX.out Try.underlying32 rfl Igx.out ?_)
  refine (WD.out _ _ DX.out).mono ?_
  rintro e wa ⟨q2, rfl, hq, hb⟩
  have B0 := Lib.hid (B0.out.trans (hb.mono B0.out.size))
  have GA := Lib.hid ((hb.block _ (blk_lt GA.out)).trans GA.out)
  have GM := Lib.hid ((hb.block _ (blk_lt GM.out)).trans GM.out)
  have NR := Lib.hid (NR.out.below hb)
  have MR := Lib.hid (MR.out.below hb)
  have SB := Lib.hid (SB.out.below hb)
  have DX := Lib.hid (DX.out.below hb)
  have GX := Lib.hid ((hb.block _ (blk_lt GX.out)).trans GX.out)
  have DY := Lib.hid (DY.out.below hb)
  have GY := Lib.hid ((hb.block _ (blk_lt GY.out)).trans GY.out)
  have SW := Lib.hid (SW.out.below hb)
  have SWT := Lib.hid hq
  obtain ⟨rx, rc2, rfl, rm⟩ := hq.form
  clear hq
  clear hb
  go_upto_region 12 with (fail)
  have NRa := NR
  have MRa := MR
  have SBa := SB
  have DXa := DX
  have DYa := DY
  have GXa := GX
  have GYa := GY
  have GAa := GA
  have GMa := GM
  have B0a := B0
  go_wp2_with fail
  refine (CP.out _ _ SB.out).mono ?_
  rintro e wb ⟨xo, co, rfl, hown, hb⟩
  have B0 := Lib.hid (B0.out.trans (hb.mono B0.out.size))
  have GA := Lib.hid ((hb.block _ (blk_lt GA.out)).trans GA.out)
  have GM := Lib.hid ((hb.block _ (blk_lt GM.out)).trans GM.out)
  have NR := Lib.hid (NR.out.below hb)
  have MR := Lib.hid (MR.out.below hb)
  have SB := Lib.hid (SB.out.below hb)
  have DX := Lib.hid (DX.out.below hb)
  have GX := Lib.hid ((hb.block _ (blk_lt GX.out)).trans GX.out)
  have DY := Lib.hid (DY.out.below hb)
  have GY := Lib.hid ((hb.block _ (blk_lt GY.out)).trans GY.out)
  have SW := Lib.hid (SW.out.below hb)
  have SWT := Lib.hid (SWT.out.below hb)
  have HBC := Lib.hid hb
  have OWN := Lib.hid hown
  clear hown
  clear hb
  go_upto_region 13 with (fail)
  go_wp2_with fail
  have OWNb := OWN
  refine (RF.out _ _ OWN.out.sees).mono ?_
  rintro e wc ⟨U, rfl, hd, hfr, hb⟩
  have B0 := Lib.hid (B0.out.trans (hb.mono B0.out.size))
  have GA := Lib.hid ((hb.block _ (blk_lt GA.out)).trans GA.out)
  have GM := Lib.hid ((hb.block _ (blk_lt GM.out)).trans GM.out)
  have NR := Lib.hid (NR.out.below hb)
  have MR := Lib.hid (MR.out.below hb)
  have SB := Lib.hid (SB.out.below hb)
  have DX := Lib.hid (DX.out.below hb)
  have GX := Lib.hid ((hb.block _ (blk_lt GX.out)).trans GX.out)
  have DY := Lib.hid (DY.out.below hb)
  have GY := Lib.hid ((hb.block _ (blk_lt GY.out)).trans GY.out)
  have SW := Lib.hid (SW.out.below hb)
  have SWT := Lib.hid (SWT.out.below hb)
  have HBC := Lib.hid (HBC.out.trans (hb.mono HBC.out.size))
  have OWN := Lib.hid (OWN.out.below hb)
  have NG := Lib.hid hd
  have FG := Lib.hid hfr
  have OLT : Hid (∀ k, (Value.slice xo xs.length co).ownBlock = some k → k < wb.heap.size) := fun k e => (OWNb.out.2.lt k e).2
  have GUle := Lib.hid hb.size
  clear hd hfr
  clear hb
  have Sgu : Hid (Zn.size = U.size) := by show _ = _; rw [ZnN.out, NG.out.four]
  have Igu := Lib.hid NG.out.info
  have Ogu := Lib.hid NG.out.one
  have GN := Lib.hid (heap_alloc_new wc (.cells Zn 26))
  have RW := Lib.hid (alloc_setRowT wc Zn U 26 _ rfl)
  have hb : Below wc.heap.size wc (wc.alloc (.cells U 26)) := (Below.refl _ _).alloc (Nat.le_refl _) _
  have GU := Lib.hid (heap_alloc_new wc (.cells U 26))
  have B0 := Lib.hid (B0.out.trans (hb.mono B0.out.size))
  have GA := Lib.hid ((hb.block _ (blk_lt GA.out)).trans GA.out)
  have GM := Lib.hid ((hb.block _ (blk_lt GM.out)).trans GM.out)
  have NR := Lib.hid (NR.out.below hb)
  have MR := Lib.hid (MR.out.below hb)
  have SB := Lib.hid (SB.out.below hb)
  have DX := Lib.hid (DX.out.below hb)
  have GX := Lib.hid ((hb.block _ (blk_lt GX.out)).trans GX.out)
  have DY := Lib.hid (DY.out.below hb)
  have GY := Lib.hid ((hb.block _ (blk_lt GY.out)).trans GY.out)
  have SW := Lib.hid (SW.out.below hb)
  have SWT := Lib.hid (SWT.out.below hb)
  have HBC := Lib.hid (HBC.out.trans (hb.mono HBC.out.size))
  have OWN := Lib.hid (OWN.out.below hb)
  have NG := Lib.hid (NG.out.below hb)
  clear hb
  go_upto_region 14 with (refine wpList_store_row rfl 26 (.tmp 17) (.tmp 99) rfl wc.heap.size U rfl rfl 26 Zn GN.out Igu.out Sgu.out Ogu.out ?_)
  rw [RW.out]
  try simp only [Act.put]
  clear GN RW
  generalize wc.alloc (.cells U 26) = wd at *
  generalize wc.heap.size = gu at *
  go_wp2_with fail
  have GUlt : Hid (wb.heap.size ≤ gu) := GUle.out
  have RGU : Hid (∀ k, (Value.slice xo xs.length co).ownBlock = some k → k ≠ gu) := fun k e => by have := OLT.out k e; have := GUlt.out; omega
  refine (show Code.wp _ _ _ _ _ from ?_)
  go_loopw [19] (fun v19 wr => ∃ (i : Nat) (zs : List Int), i ≤ xs.length ∧ v19 = .int .i64 (i : Int) ∧ zs.length = xs.length ∧ Own wr wa.heap.size (.slice xo xs.length co) zs ∧ wd.grownBy wr (Value.slice xo xs.length co).ownBlock ∧ Below wa.heap.size wa wr) (fun v19 _ => xs.length - (intOf v19).toNat)
  case atStart => exact ⟨0, xs, by omega, rfl, rfl, OWN.out, oc.grownBy_refl _ _, HBC.out⟩
  case round =>
    obtain ⟨i, zs, hi, rfl, hzl, hown, hgr, hbc⟩ := hrel
    by_cases hlt : i < xs.length
    · have hii : (i : Int) < (xs.length : Int) := by omega
      obtain ⟨g, rfl, hag, hcell, hfz, hset⟩ := own_set hown (show i < zs.length by omega)
      have hby := hown.1.nth i
      have hx8 := oc.xor8_zero (nth zs i) 255 hby (by decide)
      have hset := hset _ hx8.2
      have HSET := Lib.hid hset
      have HGR := Lib.hid (grown_trans hgr hset.2)
      have HBC2 := Lib.hid (hbc.setCell (p := ⟨g, i, none⟩) hag (.int .u8 (bits .xor .u8 (nth zs i) 255)))
      have k0 := hby.1
      have k1 := hby.2
      have HZL := Lib.hid hzl
      clear hown hgr hbc hset hx8 hby hzl
      go_wp2_with fail
      go_roundw
      case rel => exact ⟨i + 1, zs.set i (bits .xor .u8 (nth zs i) 255), by omega, by go_num, by rw [List.length_set]; exact HZL.out, HSET.out.1, HGR.out, HBC2.out⟩
      case measure => simp [intOf]; omega
    · have hge : ¬ (i : Int) < (xs.length : Int) := by omega
      have HB2 := Lib.hid hbc
      have GU := Lib.hid ((hgr.block _ (blk_lt GU.out) (fun e => RGU.out gu e.symm rfl)).trans GU.out)
      have NG := Lib.hid (NG.out.grown FG.out hgr OLT.out)
      clear hown hgr hbc hzl
      have NR := Lib.hid (NRa.out.below HB2.out)
      have MR := Lib.hid (MRa.out.below HB2.out)
      have SB := Lib.hid (SBa.out.below HB2.out)
      have DX := Lib.hid (DXa.out.below HB2.out)
      have DY := Lib.hid (DYa.out.below HB2.out)
      have GX := Lib.hid ((HB2.out.block _ (blk_lt GXa.out)).trans GXa.out)
      have GY := Lib.hid ((HB2.out.block _ (blk_lt GYa.out)).trans GYa.out)
      have GA := Lib.hid ((HB2.out.block _ (blk_lt GAa.out)).trans GAa.out)
      have GM := Lib.hid ((HB2.out.block _ (blk_lt GMa.out)).trans GMa.out)
      have B0 := Lib.hid (B0a.out.trans (HB2.out.mono B0a.out.size))
      clear NRa MRa SBa DXa DYa GXa GYa GAa GMa B0a
      go_upto_region 18 with (fail)
      go_wp2_with fail
      refine (RDC.out _ _ SB.out).mono ?_
      rintro e we ⟨O, rfl, hd, hb⟩
      have B0 := Lib.hid (B0.out.trans (hb.mono B0.out.size))
      have GA := Lib.hid ((hb.block _ (blk_lt GA.out)).trans GA.out)
      have GM := Lib.hid ((hb.block _ (blk_lt GM.out)).trans GM.out)
      have NR := Lib.hid (NR.out.below hb)
      have MR := Lib.hid (MR.out.below hb)
      have SB := Lib.hid (SB.out.below hb)
      have DX := Lib.hid (DX.out.below hb)
      have GX := Lib.hid ((hb.block _ (blk_lt GX.out)).trans GX.out)
      have DY := Lib.hid (DY.out.below hb)
      have GY := Lib.hid ((hb.block _ (blk_lt GY.out)).trans GY.out)
      have NG := Lib.hid (NG.out.below hb)
      have GU := Lib.hid ((hb.block _ (blk_lt GU.out)).trans GU.out)
      have DZ := Lib.hid hd
      clear hd
      clear hb
      have Sgz : Hid (Zd.size = O.size) := by show _ = _; rw [ZdN.out, DZ.out.two]
      have Igz := Lib.hid DZ.out.info
      have Ogz := Lib.hid DZ.out.one
      have GN := Lib.hid (heap_alloc_new we (.cells Zd 32))
      have RW := Lib.hid (alloc_setRowT we Zd O 32 _ rfl)
      have hb : Below we.heap.size we (we.alloc (.cells O 32)) := (Below.refl _ _).alloc (Nat.le_refl _) _
      have GZ := Lib.hid (heap_alloc_new we (.cells O 32))
      have B0 := Lib.hid (B0.out.trans (hb.mono B0.out.size))
      have GA := Lib.hid ((hb.block _ (blk_lt GA.out)).trans GA.out)
      have GM := Lib.hid ((hb.block _ (blk_lt GM.out)).trans GM.out)
      have NR := Lib.hid (NR.out.below hb)
      have MR := Lib.hid (MR.out.below hb)
      have SB := Lib.hid (SB.out.below hb)
      have DX := Lib.hid (DX.out.below hb)
      have GX := Lib.hid ((hb.block _ (blk_lt GX.out)).trans GX.out)
      have DY := Lib.hid (DY.out.below hb)
      have GY := Lib.hid ((hb.block _ (blk_lt GY.out)).trans GY.out)
      have NG := Lib.hid (NG.out.below hb)
      have GU := Lib.hid ((hb.block _ (blk_lt GU.out)).trans GU.out)
      have DZ := Lib.hid (DZ.out.below hb)
      clear hb
      go_upto_region 19 with (refine wpList_store_row rfl 32 (.tmp 20) (.tmp 118) rfl we.heap.size O rfl rfl 32 Zd GN.out Igz.out Sgz.out Ogz.out ?_)
      rw [RW.out]
      try simp only [Act.put]
      clear GN RW
      generalize we.alloc (.cells O 32) = wf at *
      generalize we.heap.size = gz at *
      go_wp2_with (first | (refine wpList_load_met rfl 26 (.tmp 17) rfl gu rfl 26 U (0, 0) _ GU.out Try.underlying26 ⟨_, rfl⟩ Igu.out ?_) | (refine wpList_load_met rfl 32 (.tmp 20) rfl gz rfl 32 O (0, 0) _ GZ.out Try.underlying32 ⟨_, rfl⟩ Igz.out ?_))
      refine (SLC.out _ _ _ NG.out DZ.out).mono ?_
      rintro e wg ⟨rfl, hb⟩
      have B0 := Lib.hid (B0.out.trans (hb.mono B0.out.size))
      have GA := Lib.hid ((hb.block _ (blk_lt GA.out)).trans GA.out)
      have GM := Lib.hid ((hb.block _ (blk_lt GM.out)).trans GM.out)
      have NR := Lib.hid (NR.out.below hb)
      have MR := Lib.hid (MR.out.below hb)
      have SB := Lib.hid (SB.out.below hb)
      have DX := Lib.hid (DX.out.below hb)
      have GX := Lib.hid ((hb.block _ (blk_lt GX.out)).trans GX.out)
      have DY := Lib.hid (DY.out.below hb)
      have GY := Lib.hid ((hb.block _ (blk_lt GY.out)).trans GY.out)
      have NG := Lib.hid (NG.out.below hb)
      have GU := Lib.hid ((hb.block _ (blk_lt GU.out)).trans GU.out)
      have DZ := Lib.hid (DZ.out.below hb)
      have GZ := Lib.hid ((hb.block _ (blk_lt GZ.out)).trans GZ.out)
      clear hb
      go_upto_region 21 with (fail)
      refine wp_region_held_drew (S := fun W => Below wg.heap.size wg W) (by kernel_rfl) ((Below.refl _ _).drew) (fun hS => ?_)
      have hb0 : Below wg.heap.size wg wg.drew := (Below.refl _ _).drew
      have qB0 := B0.out.trans (hb0.mono B0.out.size)
      clear hb0 B0
      generalize wg.drew = Wzs at hS qB0 ⊢
      have B0 := Lib.hid qB0
      clear qB0
      refine wpAnyH_ready (rs := [0]) (by kernel_rfl) (by simp) ?_
      refine' (AllReadyH.cons ?hoc0z (fun K hK => ?stc0z) AllReadyH.nil)
      case hoc0z => (simp only [List.getElem?_toArray, List.getElem?_cons_zero]; rfl)
      go_simp
      refine (AL.out Wzs).mono ?_
      rintro e Wzx0 ⟨rfl, hb⟩
      have B0 := Lib.hid (B0.out.trans (hb.mono B0.out.size))
      go_wp2_with fail
      refine hK.out _ _ (hS.trans (hb.mono hS.size)) (fun hHeld => ?_)
      clear hK K
      try simp only [Act.put, List.setIfInBounds_toArray, List.set_cons_succ, List.set_cons_zero]
      clear hS
      have hS := hHeld
      clear hHeld
      clear hb
      refine' wpAnyH_take (i := 1) ?h1x1zx0 ?hsx1zx0 ?hfx1zx0 ?hrx1zx0 ?hQx1zx0 (Or.inl ⟨?hwx1zx0, ?hyx1zx0⟩) hS ?restx1zx0
      case h1x1zx0 => (simp only [List.getElem?_toArray, List.getElem?_cons_succ, List.getElem?_cons_zero]; rfl)
      case hsx1zx0 | hfx1zx0 | hrx1zx0 => kernel_rfl
      case hQx1zx0 => exact fun _ _ _ h => h
      case hwx1zx0 => rfl
      case hyx1zx0 =>
        intro W hW
        go_simp
        try with_reducible rfl
      simp only [Act.put, List.setIfInBounds_toArray, List.set_cons_succ, List.set_cons_zero]
      refine' wpAnyH_take (i := 2) ?h1x2zx0 ?hsx2zx0 ?hfx2zx0 ?hrx2zx0 ?hQx2zx0 (Or.inl ⟨?hwx2zx0, ?hyx2zx0⟩) hS ?restx2zx0
      case h1x2zx0 => (simp only [List.getElem?_toArray, List.getElem?_cons_succ, List.getElem?_cons_zero]; rfl)
      case hsx2zx0 | hfx2zx0 | hrx2zx0 => kernel_rfl
      case hQx2zx0 => exact fun _ _ _ h => h
      case hwx2zx0 => rfl
      case hyx2zx0 =>
        intro W hW
        go_simp
        try with_reducible rfl
      simp only [Act.put, List.setIfInBounds_toArray, List.set_cons_succ, List.set_cons_zero]
      refine' wpAnyH_take (i := 3) ?h1x3zx0 ?hsx3zx0 ?hfx3zx0 ?hrx3zx0 ?hQx3zx0 (Or.inl ⟨?hwx3zx0, ?hyx3zx0⟩) hS ?restx3zx0
      case h1x3zx0 => (simp only [List.getElem?_toArray, List.getElem?_cons_succ, List.getElem?_cons_zero]; rfl)
      case hsx3zx0 | hfx3zx0 | hrx3zx0 => kernel_rfl
      case hQx3zx0 => exact fun _ _ _ h => h
      case hwx3zx0 => rfl
      case hyx3zx0 =>
        intro W hW
        go_simp
        try with_reducible rfl
      simp only [Act.put, List.setIfInBounds_toArray, List.set_cons_succ, List.set_cons_zero]
      refine' wpAnyH_take (i := 4) ?h1x4zx0 ?hsx4zx0 ?hfx4zx0 ?hrx4zx0 ?hQx4zx0 (Or.inl ⟨?hwx4zx0, ?hyx4zx0⟩) hS ?restx4zx0
      case h1x4zx0 => (simp only [List.getElem?_toArray, List.getElem?_cons_succ, List.getElem?_cons_zero]; rfl)
      case hsx4zx0 | hfx4zx0 | hrx4zx0 => kernel_rfl
      case hQx4zx0 => exact fun _ _ _ h => h
      case hwx4zx0 => rfl
      case hyx4zx0 =>
        intro W hW
        go_simp
        try with_reducible rfl
      simp only [Act.put, List.setIfInBounds_toArray, List.set_cons_succ, List.set_cons_zero]
      refine' wpAnyH_take (i := 5) ?h1x5zx0 ?hsx5zx0 ?hfx5zx0 ?hrx5zx0 ?hQx5zx0 (Or.inr ⟨?hwx5zx0, rfl⟩) hS ?restx5zx0
      case h1x5zx0 => (simp only [List.getElem?_toArray, List.getElem?_cons_succ, List.getElem?_cons_zero]; rfl)
      case hsx5zx0 | hfx5zx0 | hrx5zx0 => kernel_rfl
      case hQx5zx0 => exact fun _ _ _ h => h
      case hwx5zx0 => rfl
      simp only [Act.put, List.setIfInBounds_toArray, List.set_cons_succ, List.set_cons_zero]
      refine' wpAnyH_take (i := 6) ?h1x6zx0 ?hsx6zx0 ?hfx6zx0 ?hrx6zx0 ?hQx6zx0 (Or.inr ⟨?hwx6zx0, rfl⟩) hS ?restx6zx0
      case h1x6zx0 => (simp only [List.getElem?_toArray, List.getElem?_cons_succ, List.getElem?_cons_zero]; rfl)
      case hsx6zx0 | hfx6zx0 | hrx6zx0 => kernel_rfl
      case hQx6zx0 => exact fun _ _ _ h => h
      case hwx6zx0 => rfl
      simp only [Act.put, List.setIfInBounds_toArray, List.set_cons_succ, List.set_cons_zero]
      refine' wpAnyH_take (i := 7) ?h1x7zx0 ?hsx7zx0 ?hfx7zx0 ?hrx7zx0 ?hQx7zx0 (Or.inl ⟨?hwx7zx0, ?hyx7zx0⟩) hS ?restx7zx0
      case h1x7zx0 => (simp only [List.getElem?_toArray, List.getElem?_cons_succ, List.getElem?_cons_zero]; rfl)
      case hsx7zx0 | hfx7zx0 | hrx7zx0 => kernel_rfl
      case hQx7zx0 => exact fun _ _ _ h => h
      case hwx7zx0 => rfl
      case hyx7zx0 =>
        intro W hW
        go_simp
        try with_reducible rfl
      simp only [Act.put, List.setIfInBounds_toArray, List.set_cons_succ, List.set_cons_zero]
      refine' wpAnyH_take (i := 8) ?h1x8zx0 ?hsx8zx0 ?hfx8zx0 ?hrx8zx0 ?hQx8zx0 (Or.inl ⟨?hwx8zx0, ?hyx8zx0⟩) hS ?restx8zx0
      case h1x8zx0 => (simp only [List.getElem?_toArray, List.getElem?_cons_succ, List.getElem?_cons_zero]; rfl)
      case hsx8zx0 | hfx8zx0 | hrx8zx0 => kernel_rfl
      case hQx8zx0 => exact fun _ _ _ h => h
      case hwx8zx0 => rfl
      case hyx8zx0 =>
        intro W hW
        go_simp
        try with_reducible rfl
      simp only [Act.put, List.setIfInBounds_toArray, List.set_cons_succ, List.set_cons_zero]
      refine' wpAnyH_take (i := 9) ?h1x9zx0 ?hsx9zx0 ?hfx9zx0 ?hrx9zx0 ?hQx9zx0 (Or.inr ⟨?hwx9zx0, rfl⟩) hS ?restx9zx0
      case h1x9zx0 => (simp only [List.getElem?_toArray, List.getElem?_cons_succ, List.getElem?_cons_zero]; rfl)
      case hsx9zx0 | hfx9zx0 | hrx9zx0 => kernel_rfl
      case hQx9zx0 => exact fun _ _ _ h => h
      case hwx9zx0 => rfl
      simp only [Act.put, List.setIfInBounds_toArray, List.set_cons_succ, List.set_cons_zero]
      refine' wpAnyH_take (i := 10) ?h1x10zx0 ?hsx10zx0 ?hfx10zx0 ?hrx10zx0 ?hQx10zx0 (Or.inr ⟨?hwx10zx0, rfl⟩) hS ?restx10zx0
      case h1x10zx0 => (simp only [List.getElem?_toArray, List.getElem?_cons_succ, List.getElem?_cons_zero]; rfl)
      case hsx10zx0 | hfx10zx0 | hrx10zx0 => kernel_rfl
      case hQx10zx0 => exact fun _ _ _ h => h
      case hwx10zx0 => rfl
      simp only [Act.put, List.setIfInBounds_toArray, List.set_cons_succ, List.set_cons_zero]
      refine' wpAnyH_take (i := 11) ?h1x11zx0 ?hsx11zx0 ?hfx11zx0 ?hrx11zx0 ?hQx11zx0 (Or.inr ⟨?hwx11zx0, rfl⟩) hS ?restx11zx0
      case h1x11zx0 => (simp only [List.getElem?_toArray, List.getElem?_cons_succ, List.getElem?_cons_zero]; rfl)
      case hsx11zx0 | hfx11zx0 | hrx11zx0 => kernel_rfl
      case hQx11zx0 => exact fun _ _ _ h => h
      case hwx11zx0 => rfl
      simp only [Act.put, List.setIfInBounds_toArray, List.set_cons_succ, List.set_cons_zero]
      refine' wpAnyH_take (i := 12) ?h1x12zx0 ?hsx12zx0 ?hfx12zx0 ?hrx12zx0 ?hQx12zx0 (Or.inr ⟨?hwx12zx0, rfl⟩) hS ?restx12zx0
      case h1x12zx0 => (simp only [List.getElem?_toArray, List.getElem?_cons_succ, List.getElem?_cons_zero]; rfl)
      case hsx12zx0 | hfx12zx0 | hrx12zx0 => kernel_rfl
      case hQx12zx0 => exact fun _ _ _ h => h
      case hwx12zx0 => rfl
      simp only [Act.put, List.setIfInBounds_toArray, List.set_cons_succ, List.set_cons_zero]
      refine' wpAnyH_take (i := 13) ?h1x13zx0 ?hsx13zx0 ?hfx13zx0 ?hrx13zx0 ?hQx13zx0 (Or.inr ⟨?hwx13zx0, rfl⟩) hS ?restx13zx0
      case h1x13zx0 => (simp only [List.getElem?_toArray, List.getElem?_cons_succ, List.getElem?_cons_zero]; rfl)
      case hsx13zx0 | hfx13zx0 | hrx13zx0 => kernel_rfl
      case hQx13zx0 => exact fun _ _ _ h => h
      case hwx13zx0 => rfl
      simp only [Act.put, List.setIfInBounds_toArray, List.set_cons_succ, List.set_cons_zero]
      refine' wpAnyH_take (i := 14) ?h1x14zx0 ?hsx14zx0 ?hfx14zx0 ?hrx14zx0 ?hQx14zx0 (Or.inr ⟨?hwx14zx0, rfl⟩) hS ?restx14zx0
      case h1x14zx0 => (simp only [List.getElem?_toArray, List.getElem?_cons_succ, List.getElem?_cons_zero]; rfl)
      case hsx14zx0 | hfx14zx0 | hrx14zx0 => kernel_rfl
      case hQx14zx0 => exact fun _ _ _ h => h
      case hwx14zx0 => rfl
      simp only [Act.put, List.setIfInBounds_toArray, List.set_cons_succ, List.set_cons_zero]
      refine' wpAnyH_take (i := 15) ?h1x15zx0 ?hsx15zx0 ?hfx15zx0 ?hrx15zx0 ?hQx15zx0 (Or.inr ⟨?hwx15zx0, rfl⟩) hS ?restx15zx0
      case h1x15zx0 => (simp only [List.getElem?_toArray, List.getElem?_cons_succ, List.getElem?_cons_zero]; rfl)
      case hsx15zx0 | hfx15zx0 | hrx15zx0 => kernel_rfl
      case hQx15zx0 => exact fun _ _ _ h => h
      case hwx15zx0 => rfl
      simp only [Act.put, List.setIfInBounds_toArray, List.set_cons_succ, List.set_cons_zero]
      refine' wpAnyH_take (i := 16) ?h1x16zx0 ?hsx16zx0 ?hfx16zx0 ?hrx16zx0 ?hQx16zx0 (Or.inl ⟨?hwx16zx0, ?hyx16zx0⟩) hS ?restx16zx0
      case h1x16zx0 => (simp only [List.getElem?_toArray, List.getElem?_cons_succ, List.getElem?_cons_zero]; rfl)
      case hsx16zx0 | hfx16zx0 | hrx16zx0 => kernel_rfl
      case hQx16zx0 => exact fun _ _ _ h => h
      case hwx16zx0 => rfl
      case hyx16zx0 =>
        intro W hW
        go_simp
        try with_reducible rfl
      simp only [Act.put, List.setIfInBounds_toArray, List.set_cons_succ, List.set_cons_zero]
      refine' wpAnyH_take (i := 17) ?h1x17zx0 ?hsx17zx0 ?hfx17zx0 ?hrx17zx0 ?hQx17zx0 (Or.inl ⟨?hwx17zx0, ?hyx17zx0⟩) hS ?restx17zx0
      case h1x17zx0 => (simp only [List.getElem?_toArray, List.getElem?_cons_succ, List.getElem?_cons_zero]; rfl)
      case hsx17zx0 | hfx17zx0 | hrx17zx0 => kernel_rfl
      case hQx17zx0 => exact fun _ _ _ h => h
      case hwx17zx0 => rfl
      case hyx17zx0 =>
        intro W hW
        go_simp
        try with_reducible rfl
      simp only [Act.put, List.setIfInBounds_toArray, List.set_cons_succ, List.set_cons_zero]
      refine' wpAnyH_take (i := 18) ?h1x18zx0 ?hsx18zx0 ?hfx18zx0 ?hrx18zx0 ?hQx18zx0 (Or.inl ⟨?hwx18zx0, ?hyx18zx0⟩) hS ?restx18zx0
      case h1x18zx0 => (simp only [List.getElem?_toArray, List.getElem?_cons_succ, List.getElem?_cons_zero]; rfl)
      case hsx18zx0 | hfx18zx0 | hrx18zx0 => kernel_rfl
      case hQx18zx0 => exact fun _ _ _ h => h
      case hwx18zx0 => rfl
      case hyx18zx0 =>
        intro W hW
        go_simp
        try with_reducible rfl
      simp only [Act.put, List.setIfInBounds_toArray, List.set_cons_succ, List.set_cons_zero]
      refine wpAnyH_done (by kernel_rfl) ?_ _
      go_wp2_with fail
      go_ret
      exact ⟨rfl, B0.out⟩
set_option maxRecDepth 100000 in
set_option maxHeartbeats 32000000 in
theorem bytes_m100xx (A M : Array Value) (n m : NV) (xs : List Int) (v : Value) (w : World) (hn : ND w (.agg A) n) (hm : ND w (.agg M) m) (hs : Sees w v xs) (fn : ∀ p ∈ n.qs, 0 ≤ p.1 ∧ p.1 ≤ 4294967295) (fm : ∀ p ∈ m.qs, 0 ≤ p.1 ∧ p.1 ≤ 4294967295) (hgn : greatB n = false) (hgm : greatB m = false) (hl : xs.length ≤ 2000) (hok : okN n = true) (hrd : rightD (asN n) = false) (his : isN xs = false) : Calls Try.prog 3 #[.agg A, .agg M, v] w (AliveP w) := by
  obtain ⟨xv, cv, rfl, h63⟩ := hs.form
  have IA := Lib.hid hn.info
  have IM := Lib.hid hm.info
  have AL := Lib.hid alive8
  obtain ⟨W1, hW1⟩ : ∃ W1, W1 = (w.alloc (.cells A 26)).alloc (.cells M 26) := ⟨_, rfl⟩
  have b0 : Below w.heap.size w (w.alloc (.cells A 26)) := (Below.refl _ _).alloc (Nat.le_refl _) _
  have b1 : Below w.heap.size w W1 := by rw [hW1]; exact b0.alloc (by simp) _
  have GA : Hid (W1.heap[w.heap.size]? = some (.cells A 26 (0, 0))) := by show _ = _; rw [hW1, Below.heap_alloc _ _ _ (by simp)]; exact heap_alloc_new w _
  have GM : Hid (W1.heap[w.heap.size + 1]? = some (.cells M 26 (0, 0))) := by
    show _ = _
    rw [hW1]
    have := heap_alloc_new (w.alloc (.cells A 26)) (.cells M 26)
    simpa using this
  have NR := Lib.hid (hn.below b1)
  have MR := Lib.hid (hm.below b1)
  have SB := Lib.hid (hs.below b1)
  have B0 := Lib.hid b1
  have HW1 := Lib.hid hW1
  have HBY := Lib.hid hs.1
  obtain ⟨kb, hkm⟩ : ∃ kb, okN m = kb := ⟨_, rfl⟩
  have GTn : Hid (∀ v W, ND W v n → Calls Try.prog 7 #[v] W fun e w' => e = .returned (.bool false) ∧ Below W.heap.size W w') := fun v W h => by have := great v n W h; rw [hgn] at this; exact this
  have GTm : Hid (∀ v W, ND W v m → Calls Try.prog 7 #[v] W fun e w' => e = .returned (.bool false) ∧ Below W.heap.size W w') := fun v W h => by have := great v m W h; rw [hgm] at this; exact this
  have hll : (xs.length : Int) ≤ 2000 := by omega
  have n30 : n.ks.length ≤ 100 := by unfold greatB at hgn; simp only [Bool.or_eq_false_iff, decide_eq_false_iff_not] at hgn; omega
  have m30 : m.ks.length ≤ 100 := by unfold greatB at hgm; simp only [Bool.or_eq_false_iff, decide_eq_false_iff_not] at hgm; omega
  have np : n.okP := by obtain ⟨_, _, _, _, h1, _, _, h4, h5⟩ := hn; exact ⟨h1.1, h4, h5⟩
  have hrb : rightB n.leaf n.ks n.vs.length n.qs.length = false := by rw [right_eq np, hok, hrd]; rfl
  have xl : (asN n).l.length ≤ 100 := by
    unfold asN
    by_cases h : okN n = true
    · rw [if_pos h, parts_len]; exact n30
    · rw [if_neg h]; exact Nat.zero_le _
  have NX := Lib.hid (is_eq hs.1)
  have hisd : isD xs = false := by rw [NX.out.1, his]
  have ACn : Hid (∀ W, ND W (.agg A) n → Calls Try.prog 9 #[.agg A] W fun e w' => ∃ O, e = .returned (.tuple #[.agg O, .bool true]) ∧ DM w' (.agg O) (asN n) ∧ Below W.heap.size W w') := fun W h => by have := asD A n W h n30 fn; unfold AsP at this; rw [hok] at this; exact this
  have ACm : Hid (∀ W, ND W (.agg M) m → Calls Try.prog 9 #[.agg M] W fun e w' => ∃ O, e = .returned (.tuple #[.agg O, .bool kb]) ∧ DM w' (.agg O) (asN m) ∧ Below W.heap.size W w') := fun W h => by have := asD M m W h m30 fm; unfold AsP at this; rw [hkm] at this; exact this
  have WR : Hid (∀ v W, ND W v n → Calls Try.prog 10 #[v] W fun e w' => ∃ q, e = .returned (.tuple #[q, .int .i64 3]) ∧ Sees w' q [] ∧ Below W.heap.size W w') := fun v W h => by
    have := write v n W h fn
    unfold WriteP wrE wrV at this
    rw [hrb] at this
    exact this
  have RT : Hid (∀ v W, ND W v n → Calls Try.prog 12 #[v] W fun e w' => e = .returned (.bool false) ∧ Below W.heap.size W w') := fun v W h => by have := rightN v n W h; rw [hrb] at this; exact this
  have RC : Hid (∀ O W, DM W (.agg O) (asN n) → Calls Try.prog 11 #[.agg O] W fun e w' => e = .returned (.bool false) ∧ Below W.heap.size W w') := fun O W h => by have := rightDC O (asN n) W h xl; rw [hrd] at this; exact this
  have WD : Hid (∀ O W, DM W (.agg O) (asN n) → Calls Try.prog 13 #[.agg O] W fun e w' => ∃ q, e = .returned (.tuple #[q, .int .i64 3]) ∧ Sees w' q [] ∧ Below W.heap.size W w') := fun O W h => by
    have := writeD O (asN n) W h xl
    unfold WrP at this
    rw [hrd] at this
    exact this
  have CP := Lib.hid (fun v W (h : Sees W v xs) => oc.copy v xs (by omega) W h)
  obtain ⟨gt, hgt⟩ : ∃ gt, gt = nz := ⟨_, rfl⟩
  obtain ⟨zd, hzd⟩ : ∃ zd, zd = nzD := ⟨_, rfl⟩
  have RF : Hid (∀ v W, Sees W v xs → Calls Try.prog 15 #[v] W fun e w' => ∃ U, e = .returned (.tuple #[.agg U, .int .i64 3]) ∧ ND w' (.agg U) gt ∧ freshN W.heap.size (.agg U) ∧ Below W.heap.size W w') := fun v W h => by
    have := readF v xs W h (by omega)
    unfold ReadPF at this
    rw [his] at this
    refine this.mono fun e w' ⟨u, q1, q2, q3, q4⟩ => ?_
    obtain ⟨K, V, Q, rfl, _⟩ := id q2
    exact ⟨_, q1, by rw [hgt]; exact q2, q3, q4⟩
  have RDC : Hid (∀ v W, Sees W v xs → Calls Try.prog 16 #[v] W fun e w' => ∃ O, e = .returned (.tuple #[.agg O, .int .i64 3]) ∧ DM w' (.agg O) zd ∧ Below W.heap.size W w') := fun v W h => by
    have := readD v xs W h
    unfold ReadDP at this
    rw [hisd] at this
    rw [hzd]
    exact this
  have SLC : Hid (∀ U O W, ND W (.agg U) gt → ND W (.agg O) nz → Calls Try.prog 18 #[.agg U, .agg O] W fun e w' => e = .returned (.bool true) ∧ Below W.heap.size W w') := fun U O W h1 h2 => by
    rw [hgt] at h1
    have := same (.agg U) (.agg O) nz nz W h1 h2
    rw [show sameB nz nz = true by simp [sameB]] at this
    exact this
  obtain ⟨sb, hsb⟩ : ∃ sb, sb = sameB n m := ⟨_, rfl⟩
  have SNM : Hid (∀ W, ND W (.agg A) n → ND W (.agg M) m → Calls Try.prog 18 #[.agg A, .agg M] W fun e w' => e = .returned (.bool sb) ∧ Below W.heap.size W w') := fun W h1 h2 => by rw [hsb]; exact same _ _ n m W h1 h2
  have SXY : Hid (kb = true → ∀ X Y W, DM W (.agg X) (asN n) → DM W (.agg Y) (asN m) → Calls Try.prog 19 #[.agg X, .agg Y] W fun e w' => e = .returned (.bool sb) ∧ Below W.heap.size W w') := fun hk X Y W h1 h2 => by rw [hsb, same_eq hok (hkm.trans hk) fn fm]; exact sameDC X Y (asN n) (asN m) W h1 h2 xl
  have hz26 := z26
  have hz32 := z32
  have b26z := b26
  obtain ⟨Zn, hZn⟩ : ∃ Zn : Array Value, Zn = #[.bool false, .slice none 0 0, .slice none 0 0, .slice none 0 0] := ⟨_, rfl⟩
  obtain ⟨Zd, hZd⟩ : ∃ Zd : Array Value, Zd = #[.bool false, .slice none 0 0] := ⟨_, rfl⟩
  rw [← hZn] at hz26 b26z
  rw [← hZd] at hz32
  have BZ := Lib.hid b26z
  have NZ : Hid (∀ W, ND W (.agg Zn) nz) := fun W => by rw [hZn]; exact nd_nz W
  have ZnN : Hid (Zn.size = 4) := by show _ = _; rw [hZn]; rfl
  have ZdN : Hid (Zd.size = 2) := by show _ = _; rw [hZd]; rfl
  clear hW1 b0 b1 hn hm hs fn fm hgn hgm hl hok hrd his hkm n30 m30 np hrb xl hisd b26z hZn hZd hgt hzd NX hsb
  generalize asN n = xn at *
  generalize asN m = ym at *
  go_enter Try.func3, Try.ntmps3
  go_upto_region 1 with (fail)
  rw [← HW1.out]
  go_wp2_with (refine wpList_load_row rfl 26 (.tmp 3) rfl w.heap.size rfl 26 A (0, 0) _ GA.out Try.underlying26 rfl IA.out ?_)
  refine (GTn.out _ _ NR.out).mono ?_
  rintro e w1 ⟨rfl, hb⟩
  have B0 := Lib.hid (B0.out.trans (hb.mono B0.out.size))
  have GA := Lib.hid ((hb.block _ (blk_lt GA.out)).trans GA.out)
  have GM := Lib.hid ((hb.block _ (blk_lt GM.out)).trans GM.out)
  have NR := Lib.hid (NR.out.below hb)
  have MR := Lib.hid (MR.out.below hb)
  have SB := Lib.hid (SB.out.below hb)
  clear hb
  go_wp2_with (refine wpList_load_met rfl 26 (.tmp 4) rfl (w.heap.size + 1) rfl 26 M (0, 0) _ GM.out Try.underlying26 ⟨_, rfl⟩ IM.out ?_)
  refine (GTm.out _ _ MR.out).mono ?_
  rintro e w2 ⟨rfl, hb⟩
  have B0 := Lib.hid (B0.out.trans (hb.mono B0.out.size))
  have GA := Lib.hid ((hb.block _ (blk_lt GA.out)).trans GA.out)
  have GM := Lib.hid ((hb.block _ (blk_lt GM.out)).trans GM.out)
  have NR := Lib.hid (NR.out.below hb)
  have MR := Lib.hid (MR.out.below hb)
  have SB := Lib.hid (SB.out.below hb)
  clear hb
  go_upto_region 3 with (fail)
  go_wp2_with (refine wpList_load_row rfl 26 (.tmp 3) rfl w.heap.size rfl 26 A (0, 0) _ GA.out Try.underlying26 rfl IA.out ?_)
  refine (ACn.out _ NR.out).mono ?_
  rintro e w3 ⟨X, rfl, hd, hb⟩
  have B0 := Lib.hid (B0.out.trans (hb.mono B0.out.size))
  have GA := Lib.hid ((hb.block _ (blk_lt GA.out)).trans GA.out)
  have GM := Lib.hid ((hb.block _ (blk_lt GM.out)).trans GM.out)
  have NR := Lib.hid (NR.out.below hb)
  have MR := Lib.hid (MR.out.below hb)
  have SB := Lib.hid (SB.out.below hb)
  have DX := Lib.hid hd
  clear hd
  clear hb
  have Sgx : Hid (Zd.size = X.size) := by show _ = _; rw [ZdN.out, DX.out.two]
  have Igx := Lib.hid DX.out.info
  have Ogx := Lib.hid DX.out.one
  have GN := Lib.hid (heap_alloc_new w3 (.cells Zd 32))
  have RW := Lib.hid (alloc_setRowT w3 Zd X 32 _ rfl)
  have hb : Below w3.heap.size w3 (w3.alloc (.cells X 32)) := (Below.refl _ _).alloc (Nat.le_refl _) _
  have GX := Lib.hid (heap_alloc_new w3 (.cells X 32))
  have B0 := Lib.hid (B0.out.trans (hb.mono B0.out.size))
  have GA := Lib.hid ((hb.block _ (blk_lt GA.out)).trans GA.out)
  have GM := Lib.hid ((hb.block _ (blk_lt GM.out)).trans GM.out)
  have NR := Lib.hid (NR.out.below hb)
  have MR := Lib.hid (MR.out.below hb)
  have SB := Lib.hid (SB.out.below hb)
  have DX := Lib.hid (DX.out.below hb)
  clear hb
  go_upto_region 4 with (refine wpList_store_row rfl 32 (.tmp 7) (.tmp 37) rfl w3.heap.size X rfl rfl 32 Zd GN.out Igx.out Sgx.out Ogx.out ?_)
  rw [RW.out]
  try simp only [Act.put]
  clear GN RW
  generalize w3.alloc (.cells X 32) = w4 at *
  generalize w3.heap.size = gx at *
  go_wp2_with (refine wpList_load_row rfl 26 (.tmp 4) rfl (w.heap.size + 1) rfl 26 M (0, 0) _ GM.out Try.underlying26 rfl IM.out ?_)
  refine (ACm.out _ MR.out).mono ?_
  rintro e w5 ⟨Y, rfl, hd, hb⟩
  have B0 := Lib.hid (B0.out.trans (hb.mono B0.out.size))
  have GA := Lib.hid ((hb.block _ (blk_lt GA.out)).trans GA.out)
  have GM := Lib.hid ((hb.block _ (blk_lt GM.out)).trans GM.out)
  have NR := Lib.hid (NR.out.below hb)
  have MR := Lib.hid (MR.out.below hb)
  have SB := Lib.hid (SB.out.below hb)
  have DX := Lib.hid (DX.out.below hb)
  have GX := Lib.hid ((hb.block _ (blk_lt GX.out)).trans GX.out)
  have DY := Lib.hid hd
  clear hd
  clear hb
  have Sgy : Hid (Zd.size = Y.size) := by show _ = _; rw [ZdN.out, DY.out.two]
  have Igy := Lib.hid DY.out.info
  have Ogy := Lib.hid DY.out.one
  have GN := Lib.hid (heap_alloc_new w5 (.cells Zd 32))
  have RW := Lib.hid (alloc_setRowT w5 Zd Y 32 _ rfl)
  have hb : Below w5.heap.size w5 (w5.alloc (.cells Y 32)) := (Below.refl _ _).alloc (Nat.le_refl _) _
  have GY := Lib.hid (heap_alloc_new w5 (.cells Y 32))
  have B0 := Lib.hid (B0.out.trans (hb.mono B0.out.size))
  have GA := Lib.hid ((hb.block _ (blk_lt GA.out)).trans GA.out)
  have GM := Lib.hid ((hb.block _ (blk_lt GM.out)).trans GM.out)
  have NR := Lib.hid (NR.out.below hb)
  have MR := Lib.hid (MR.out.below hb)
  have SB := Lib.hid (SB.out.below hb)
  have DX := Lib.hid (DX.out.below hb)
  have GX := Lib.hid ((hb.block _ (blk_lt GX.out)).trans GX.out)
  have DY := Lib.hid (DY.out.below hb)
  clear hb
  go_upto_region 5 with (refine wpList_store_row rfl 32 (.tmp 9) (.tmp 42) rfl w5.heap.size Y rfl rfl 32 Zd GN.out Igy.out Sgy.out Ogy.out ?_)
  rw [RW.out]
  try simp only [Act.put]
  clear GN RW
  generalize w5.alloc (.cells Y 32) = w6 at *
  generalize w5.heap.size = gy at *
  go_wp2_with (refine wpList_load_row rfl 26 (.tmp 3) rfl w.heap.size rfl 26 A (0, 0) _ GA.out Try.underlying26 rfl IA.out ?_)
  refine (WR.out _ _ NR.out).mono ?_
  rintro e w7 ⟨q, rfl, hq, hb⟩
  have B0 := Lib.hid (B0.out.trans (hb.mono B0.out.size))
  have GA := Lib.hid ((hb.block _ (blk_lt GA.out)).trans GA.out)
  have GM := Lib.hid ((hb.block _ (blk_lt GM.out)).trans GM.out)
  have NR := Lib.hid (NR.out.below hb)
  have MR := Lib.hid (MR.out.below hb)
  have SB := Lib.hid (SB.out.below hb)
  have DX := Lib.hid (DX.out.below hb)
  have GX := Lib.hid ((hb.block _ (blk_lt GX.out)).trans GX.out)
  have DY := Lib.hid (DY.out.below hb)
  have GY := Lib.hid ((hb.block _ (blk_lt GY.out)).trans GY.out)
  have SW := Lib.hid hq
  obtain ⟨qx, qc, rfl, qm⟩ := hq.form
  clear hq
  clear hb
  go_upto_region 6 with (fail)
  go_wp2_with (refine wpList_load_met rfl 32 (.tmp 7) rfl gx rfl 32 X (0, 0) _ GX.out Try.underlying32 ⟨_, rfl⟩ Igx.out ?_)
  refine (RC.out _ _ DX.out).mono ?_
  rintro e w8 ⟨rfl, hb⟩
  have B0 := Lib.hid (B0.out.trans (hb.mono B0.out.size))
  have GA := Lib.hid ((hb.block _ (blk_lt GA.out)).trans GA.out)
  have GM := Lib.hid ((hb.block _ (blk_lt GM.out)).trans GM.out)
  have NR := Lib.hid (NR.out.below hb)
  have MR := Lib.hid (MR.out.below hb)
  have SB := Lib.hid (SB.out.below hb)
  have DX := Lib.hid (DX.out.below hb)
  have GX := Lib.hid ((hb.block _ (blk_lt GX.out)).trans GX.out)
  have DY := Lib.hid (DY.out.below hb)
  have GY := Lib.hid ((hb.block _ (blk_lt GY.out)).trans GY.out)
  have SW := Lib.hid (SW.out.below hb)
  clear hb
  go_upto_region 7 with (fail)
  go_wp2_with (refine wpList_load_row rfl 26 (.tmp 3) rfl w.heap.size rfl 26 A (0, 0) _ GA.out Try.underlying26 rfl IA.out ?_)
  refine (RT.out _ _ NR.out).mono ?_
  rintro e w9 ⟨rfl, hb⟩
  have B0 := Lib.hid (B0.out.trans (hb.mono B0.out.size))
  have GA := Lib.hid ((hb.block _ (blk_lt GA.out)).trans GA.out)
  have GM := Lib.hid ((hb.block _ (blk_lt GM.out)).trans GM.out)
  have NR := Lib.hid (NR.out.below hb)
  have MR := Lib.hid (MR.out.below hb)
  have SB := Lib.hid (SB.out.below hb)
  have DX := Lib.hid (DX.out.below hb)
  have GX := Lib.hid ((hb.block _ (blk_lt GX.out)).trans GX.out)
  have DY := Lib.hid (DY.out.below hb)
  have GY := Lib.hid ((hb.block _ (blk_lt GY.out)).trans GY.out)
  have SW := Lib.hid (SW.out.below hb)
  clear hb
  go_upto_region 9 with (fail)
  go_wp2_with (refine wpList_load_row rfl 32 (.tmp 7) rfl gx rfl 32 X (0, 0) _ GX.out Try.underlying32 rfl Igx.out ?_)
  refine (WD.out _ _ DX.out).mono ?_
  rintro e wa ⟨q2, rfl, hq, hb⟩
  have B0 := Lib.hid (B0.out.trans (hb.mono B0.out.size))
  have GA := Lib.hid ((hb.block _ (blk_lt GA.out)).trans GA.out)
  have GM := Lib.hid ((hb.block _ (blk_lt GM.out)).trans GM.out)
  have NR := Lib.hid (NR.out.below hb)
  have MR := Lib.hid (MR.out.below hb)
  have SB := Lib.hid (SB.out.below hb)
  have DX := Lib.hid (DX.out.below hb)
  have GX := Lib.hid ((hb.block _ (blk_lt GX.out)).trans GX.out)
  have DY := Lib.hid (DY.out.below hb)
  have GY := Lib.hid ((hb.block _ (blk_lt GY.out)).trans GY.out)
  have SW := Lib.hid (SW.out.below hb)
  have SWT := Lib.hid hq
  obtain ⟨rx, rc2, rfl, rm⟩ := hq.form
  clear hq
  clear hb
  go_upto_region 12 with (fail)
  have NRa := NR
  have MRa := MR
  have SBa := SB
  have DXa := DX
  have DYa := DY
  have GXa := GX
  have GYa := GY
  have GAa := GA
  have GMa := GM
  have B0a := B0
  go_wp2_with fail
  refine (CP.out _ _ SB.out).mono ?_
  rintro e wb ⟨xo, co, rfl, hown, hb⟩
  have B0 := Lib.hid (B0.out.trans (hb.mono B0.out.size))
  have GA := Lib.hid ((hb.block _ (blk_lt GA.out)).trans GA.out)
  have GM := Lib.hid ((hb.block _ (blk_lt GM.out)).trans GM.out)
  have NR := Lib.hid (NR.out.below hb)
  have MR := Lib.hid (MR.out.below hb)
  have SB := Lib.hid (SB.out.below hb)
  have DX := Lib.hid (DX.out.below hb)
  have GX := Lib.hid ((hb.block _ (blk_lt GX.out)).trans GX.out)
  have DY := Lib.hid (DY.out.below hb)
  have GY := Lib.hid ((hb.block _ (blk_lt GY.out)).trans GY.out)
  have SW := Lib.hid (SW.out.below hb)
  have SWT := Lib.hid (SWT.out.below hb)
  have HBC := Lib.hid hb
  have OWN := Lib.hid hown
  clear hown
  clear hb
  go_upto_region 13 with (fail)
  go_wp2_with fail
  have OWNb := OWN
  refine (RF.out _ _ OWN.out.sees).mono ?_
  rintro e wc ⟨U, rfl, hd, hfr, hb⟩
  have B0 := Lib.hid (B0.out.trans (hb.mono B0.out.size))
  have GA := Lib.hid ((hb.block _ (blk_lt GA.out)).trans GA.out)
  have GM := Lib.hid ((hb.block _ (blk_lt GM.out)).trans GM.out)
  have NR := Lib.hid (NR.out.below hb)
  have MR := Lib.hid (MR.out.below hb)
  have SB := Lib.hid (SB.out.below hb)
  have DX := Lib.hid (DX.out.below hb)
  have GX := Lib.hid ((hb.block _ (blk_lt GX.out)).trans GX.out)
  have DY := Lib.hid (DY.out.below hb)
  have GY := Lib.hid ((hb.block _ (blk_lt GY.out)).trans GY.out)
  have SW := Lib.hid (SW.out.below hb)
  have SWT := Lib.hid (SWT.out.below hb)
  have HBC := Lib.hid (HBC.out.trans (hb.mono HBC.out.size))
  have OWN := Lib.hid (OWN.out.below hb)
  have NG := Lib.hid hd
  have FG := Lib.hid hfr
  have OLT : Hid (∀ k, (Value.slice xo xs.length co).ownBlock = some k → k < wb.heap.size) := fun k e => (OWNb.out.2.lt k e).2
  have GUle := Lib.hid hb.size
  clear hd hfr
  clear hb
  have Sgu : Hid (Zn.size = U.size) := by show _ = _; rw [ZnN.out, NG.out.four]
  have Igu := Lib.hid NG.out.info
  have Ogu := Lib.hid NG.out.one
  have GN := Lib.hid (heap_alloc_new wc (.cells Zn 26))
  have RW := Lib.hid (alloc_setRowT wc Zn U 26 _ rfl)
  have hb : Below wc.heap.size wc (wc.alloc (.cells U 26)) := (Below.refl _ _).alloc (Nat.le_refl _) _
  have GU := Lib.hid (heap_alloc_new wc (.cells U 26))
  have B0 := Lib.hid (B0.out.trans (hb.mono B0.out.size))
  have GA := Lib.hid ((hb.block _ (blk_lt GA.out)).trans GA.out)
  have GM := Lib.hid ((hb.block _ (blk_lt GM.out)).trans GM.out)
  have NR := Lib.hid (NR.out.below hb)
  have MR := Lib.hid (MR.out.below hb)
  have SB := Lib.hid (SB.out.below hb)
  have DX := Lib.hid (DX.out.below hb)
  have GX := Lib.hid ((hb.block _ (blk_lt GX.out)).trans GX.out)
  have DY := Lib.hid (DY.out.below hb)
  have GY := Lib.hid ((hb.block _ (blk_lt GY.out)).trans GY.out)
  have SW := Lib.hid (SW.out.below hb)
  have SWT := Lib.hid (SWT.out.below hb)
  have HBC := Lib.hid (HBC.out.trans (hb.mono HBC.out.size))
  have OWN := Lib.hid (OWN.out.below hb)
  have NG := Lib.hid (NG.out.below hb)
  clear hb
  go_upto_region 14 with (refine wpList_store_row rfl 26 (.tmp 17) (.tmp 99) rfl wc.heap.size U rfl rfl 26 Zn GN.out Igu.out Sgu.out Ogu.out ?_)
  rw [RW.out]
  try simp only [Act.put]
  clear GN RW
  generalize wc.alloc (.cells U 26) = wd at *
  generalize wc.heap.size = gu at *
  go_wp2_with fail
  have GUlt : Hid (wb.heap.size ≤ gu) := GUle.out
  have RGU : Hid (∀ k, (Value.slice xo xs.length co).ownBlock = some k → k ≠ gu) := fun k e => by have := OLT.out k e; have := GUlt.out; omega
  refine (show Code.wp _ _ _ _ _ from ?_)
  go_loopw [19] (fun v19 wr => ∃ (i : Nat) (zs : List Int), i ≤ xs.length ∧ v19 = .int .i64 (i : Int) ∧ zs.length = xs.length ∧ Own wr wa.heap.size (.slice xo xs.length co) zs ∧ wd.grownBy wr (Value.slice xo xs.length co).ownBlock ∧ Below wa.heap.size wa wr) (fun v19 _ => xs.length - (intOf v19).toNat)
  case atStart => exact ⟨0, xs, by omega, rfl, rfl, OWN.out, oc.grownBy_refl _ _, HBC.out⟩
  case round =>
    obtain ⟨i, zs, hi, rfl, hzl, hown, hgr, hbc⟩ := hrel
    by_cases hlt : i < xs.length
    · have hii : (i : Int) < (xs.length : Int) := by omega
      obtain ⟨g, rfl, hag, hcell, hfz, hset⟩ := own_set hown (show i < zs.length by omega)
      have hby := hown.1.nth i
      have hx8 := oc.xor8_zero (nth zs i) 255 hby (by decide)
      have hset := hset _ hx8.2
      have HSET := Lib.hid hset
      have HGR := Lib.hid (grown_trans hgr hset.2)
      have HBC2 := Lib.hid (hbc.setCell (p := ⟨g, i, none⟩) hag (.int .u8 (bits .xor .u8 (nth zs i) 255)))
      have k0 := hby.1
      have k1 := hby.2
      have HZL := Lib.hid hzl
      clear hown hgr hbc hset hx8 hby hzl
      go_wp2_with fail
      go_roundw
      case rel => exact ⟨i + 1, zs.set i (bits .xor .u8 (nth zs i) 255), by omega, by go_num, by rw [List.length_set]; exact HZL.out, HSET.out.1, HGR.out, HBC2.out⟩
      case measure => simp [intOf]; omega
    · have hge : ¬ (i : Int) < (xs.length : Int) := by omega
      have HB2 := Lib.hid hbc
      have GU := Lib.hid ((hgr.block _ (blk_lt GU.out) (fun e => RGU.out gu e.symm rfl)).trans GU.out)
      have NG := Lib.hid (NG.out.grown FG.out hgr OLT.out)
      clear hown hgr hbc hzl
      have NR := Lib.hid (NRa.out.below HB2.out)
      have MR := Lib.hid (MRa.out.below HB2.out)
      have SB := Lib.hid (SBa.out.below HB2.out)
      have DX := Lib.hid (DXa.out.below HB2.out)
      have DY := Lib.hid (DYa.out.below HB2.out)
      have GX := Lib.hid ((HB2.out.block _ (blk_lt GXa.out)).trans GXa.out)
      have GY := Lib.hid ((HB2.out.block _ (blk_lt GYa.out)).trans GYa.out)
      have GA := Lib.hid ((HB2.out.block _ (blk_lt GAa.out)).trans GAa.out)
      have GM := Lib.hid ((HB2.out.block _ (blk_lt GMa.out)).trans GMa.out)
      have B0 := Lib.hid (B0a.out.trans (HB2.out.mono B0a.out.size))
      clear NRa MRa SBa DXa DYa GXa GYa GAa GMa B0a
      go_upto_region 18 with (fail)
      go_wp2_with fail
      refine (RDC.out _ _ SB.out).mono ?_
      rintro e we ⟨O, rfl, hd, hb⟩
      have B0 := Lib.hid (B0.out.trans (hb.mono B0.out.size))
      have GA := Lib.hid ((hb.block _ (blk_lt GA.out)).trans GA.out)
      have GM := Lib.hid ((hb.block _ (blk_lt GM.out)).trans GM.out)
      have NR := Lib.hid (NR.out.below hb)
      have MR := Lib.hid (MR.out.below hb)
      have SB := Lib.hid (SB.out.below hb)
      have DX := Lib.hid (DX.out.below hb)
      have GX := Lib.hid ((hb.block _ (blk_lt GX.out)).trans GX.out)
      have DY := Lib.hid (DY.out.below hb)
      have GY := Lib.hid ((hb.block _ (blk_lt GY.out)).trans GY.out)
      have NG := Lib.hid (NG.out.below hb)
      have GU := Lib.hid ((hb.block _ (blk_lt GU.out)).trans GU.out)
      have DZ := Lib.hid hd
      clear hd
      clear hb
      have Sgz : Hid (Zd.size = O.size) := by show _ = _; rw [ZdN.out, DZ.out.two]
      have Igz := Lib.hid DZ.out.info
      have Ogz := Lib.hid DZ.out.one
      have GN := Lib.hid (heap_alloc_new we (.cells Zd 32))
      have RW := Lib.hid (alloc_setRowT we Zd O 32 _ rfl)
      have hb : Below we.heap.size we (we.alloc (.cells O 32)) := (Below.refl _ _).alloc (Nat.le_refl _) _
      have GZ := Lib.hid (heap_alloc_new we (.cells O 32))
      have B0 := Lib.hid (B0.out.trans (hb.mono B0.out.size))
      have GA := Lib.hid ((hb.block _ (blk_lt GA.out)).trans GA.out)
      have GM := Lib.hid ((hb.block _ (blk_lt GM.out)).trans GM.out)
      have NR := Lib.hid (NR.out.below hb)
      have MR := Lib.hid (MR.out.below hb)
      have SB := Lib.hid (SB.out.below hb)
      have DX := Lib.hid (DX.out.below hb)
      have GX := Lib.hid ((hb.block _ (blk_lt GX.out)).trans GX.out)
      have DY := Lib.hid (DY.out.below hb)
      have GY := Lib.hid ((hb.block _ (blk_lt GY.out)).trans GY.out)
      have NG := Lib.hid (NG.out.below hb)
      have GU := Lib.hid ((hb.block _ (blk_lt GU.out)).trans GU.out)
      have DZ := Lib.hid (DZ.out.below hb)
      clear hb
      go_upto_region 19 with (refine wpList_store_row rfl 32 (.tmp 20) (.tmp 118) rfl we.heap.size O rfl rfl 32 Zd GN.out Igz.out Sgz.out Ogz.out ?_)
      rw [RW.out]
      try simp only [Act.put]
      clear GN RW
      generalize we.alloc (.cells O 32) = wf at *
      generalize we.heap.size = gz at *
      go_wp2_with (first | (refine wpList_load_met rfl 26 (.tmp 17) rfl gu rfl 26 U (0, 0) _ GU.out Try.underlying26 ⟨_, rfl⟩ Igu.out ?_) | (refine wpList_blank_met rfl 26 rfl (BZ.out _) ?_))
      refine (SLC.out _ _ _ NG.out (NZ.out _)).mono ?_
      rintro e wg ⟨rfl, hb⟩
      have B0 := Lib.hid (B0.out.trans (hb.mono B0.out.size))
      have GA := Lib.hid ((hb.block _ (blk_lt GA.out)).trans GA.out)
      have GM := Lib.hid ((hb.block _ (blk_lt GM.out)).trans GM.out)
      have NR := Lib.hid (NR.out.below hb)
      have MR := Lib.hid (MR.out.below hb)
      have SB := Lib.hid (SB.out.below hb)
      have DX := Lib.hid (DX.out.below hb)
      have GX := Lib.hid ((hb.block _ (blk_lt GX.out)).trans GX.out)
      have DY := Lib.hid (DY.out.below hb)
      have GY := Lib.hid ((hb.block _ (blk_lt GY.out)).trans GY.out)
      have NG := Lib.hid (NG.out.below hb)
      have GU := Lib.hid ((hb.block _ (blk_lt GU.out)).trans GU.out)
      have DZ := Lib.hid (DZ.out.below hb)
      have GZ := Lib.hid ((hb.block _ (blk_lt GZ.out)).trans GZ.out)
      clear hb
      go_upto_region 21 with (fail)
      cases kb with
      | false =>
        refine wp_region_held_drew (S := fun W => Below wg.heap.size wg W) (by kernel_rfl) ((Below.refl _ _).drew) (fun hS => ?_)
        have hb0 : Below wg.heap.size wg wg.drew := (Below.refl _ _).drew
        have qB0 := B0.out.trans (hb0.mono B0.out.size)
        clear hb0 B0
        generalize wg.drew = Wzs at hS qB0 ⊢
        have B0 := Lib.hid qB0
        clear qB0
        refine wpAnyH_ready (rs := [0]) (by kernel_rfl) (by simp) ?_
        refine' (AllReadyH.cons ?hoc0z (fun K hK => ?stc0z) AllReadyH.nil)
        case hoc0z => (simp only [List.getElem?_toArray, List.getElem?_cons_zero]; rfl)
        go_simp
        refine (AL.out Wzs).mono ?_
        rintro e Wzx0 ⟨rfl, hb⟩
        have B0 := Lib.hid (B0.out.trans (hb.mono B0.out.size))
        go_wp2_with fail
        refine hK.out _ _ (hS.trans (hb.mono hS.size)) (fun hHeld => ?_)
        clear hK K
        try simp only [Act.put, List.setIfInBounds_toArray, List.set_cons_succ, List.set_cons_zero]
        clear hS
        have hS := hHeld
        clear hHeld
        clear hb
        refine' wpAnyH_take (i := 1) ?h1x1zx0 ?hsx1zx0 ?hfx1zx0 ?hrx1zx0 ?hQx1zx0 (Or.inl ⟨?hwx1zx0, ?hyx1zx0⟩) hS ?restx1zx0
        case h1x1zx0 => (simp only [List.getElem?_toArray, List.getElem?_cons_succ, List.getElem?_cons_zero]; rfl)
        case hsx1zx0 | hfx1zx0 | hrx1zx0 => kernel_rfl
        case hQx1zx0 => exact fun _ _ _ h => h
        case hwx1zx0 => rfl
        case hyx1zx0 =>
          intro W hW
          go_simp
          try with_reducible rfl
        simp only [Act.put, List.setIfInBounds_toArray, List.set_cons_succ, List.set_cons_zero]
        refine' wpAnyH_take (i := 2) ?h1x2zx0 ?hsx2zx0 ?hfx2zx0 ?hrx2zx0 ?hQx2zx0 (Or.inl ⟨?hwx2zx0, ?hyx2zx0⟩) hS ?restx2zx0
        case h1x2zx0 => (simp only [List.getElem?_toArray, List.getElem?_cons_succ, List.getElem?_cons_zero]; rfl)
        case hsx2zx0 | hfx2zx0 | hrx2zx0 => kernel_rfl
        case hQx2zx0 => exact fun _ _ _ h => h
        case hwx2zx0 => rfl
        case hyx2zx0 =>
          intro W hW
          go_simp
          try with_reducible rfl
        simp only [Act.put, List.setIfInBounds_toArray, List.set_cons_succ, List.set_cons_zero]
        refine' wpAnyH_take (i := 3) ?h1x3zx0 ?hsx3zx0 ?hfx3zx0 ?hrx3zx0 ?hQx3zx0 (Or.inl ⟨?hwx3zx0, ?hyx3zx0⟩) hS ?restx3zx0
        case h1x3zx0 => (simp only [List.getElem?_toArray, List.getElem?_cons_succ, List.getElem?_cons_zero]; rfl)
        case hsx3zx0 | hfx3zx0 | hrx3zx0 => kernel_rfl
        case hQx3zx0 => exact fun _ _ _ h => h
        case hwx3zx0 => rfl
        case hyx3zx0 =>
          intro W hW
          go_simp
          try with_reducible rfl
        simp only [Act.put, List.setIfInBounds_toArray, List.set_cons_succ, List.set_cons_zero]
        refine' wpAnyH_take (i := 4) ?h1x4zx0 ?hsx4zx0 ?hfx4zx0 ?hrx4zx0 ?hQx4zx0 (Or.inl ⟨?hwx4zx0, ?hyx4zx0⟩) hS ?restx4zx0
        case h1x4zx0 => (simp only [List.getElem?_toArray, List.getElem?_cons_succ, List.getElem?_cons_zero]; rfl)
        case hsx4zx0 | hfx4zx0 | hrx4zx0 => kernel_rfl
        case hQx4zx0 => exact fun _ _ _ h => h
        case hwx4zx0 => rfl
        case hyx4zx0 =>
          intro W hW
          go_simp
          try with_reducible rfl
        simp only [Act.put, List.setIfInBounds_toArray, List.set_cons_succ, List.set_cons_zero]
        refine' wpAnyH_take (i := 5) ?h1x5zx0 ?hsx5zx0 ?hfx5zx0 ?hrx5zx0 ?hQx5zx0 (Or.inl ⟨?hwx5zx0, ?hyx5zx0⟩) hS ?restx5zx0
        case h1x5zx0 => (simp only [List.getElem?_toArray, List.getElem?_cons_succ, List.getElem?_cons_zero]; rfl)
        case hsx5zx0 | hfx5zx0 | hrx5zx0 => kernel_rfl
        case hQx5zx0 => exact fun _ _ _ h => h
        case hwx5zx0 => rfl
        case hyx5zx0 =>
          intro W hW
          go_simp
          try with_reducible rfl
        simp only [Act.put, List.setIfInBounds_toArray, List.set_cons_succ, List.set_cons_zero]
        refine' wpAnyH_take (i := 6) ?h1x6zx0 ?hsx6zx0 ?hfx6zx0 ?hrx6zx0 ?hQx6zx0 (Or.inl ⟨?hwx6zx0, ?hyx6zx0⟩) hS ?restx6zx0
        case h1x6zx0 => (simp only [List.getElem?_toArray, List.getElem?_cons_succ, List.getElem?_cons_zero]; rfl)
        case hsx6zx0 | hfx6zx0 | hrx6zx0 => kernel_rfl
        case hQx6zx0 => exact fun _ _ _ h => h
        case hwx6zx0 => rfl
        case hyx6zx0 =>
          intro W hW
          go_simp
          try with_reducible rfl
        simp only [Act.put, List.setIfInBounds_toArray, List.set_cons_succ, List.set_cons_zero]
        refine' wpAnyH_take (i := 7) ?h1x7zx0 ?hsx7zx0 ?hfx7zx0 ?hrx7zx0 ?hQx7zx0 (Or.inl ⟨?hwx7zx0, ?hyx7zx0⟩) hS ?restx7zx0
        case h1x7zx0 => (simp only [List.getElem?_toArray, List.getElem?_cons_succ, List.getElem?_cons_zero]; rfl)
        case hsx7zx0 | hfx7zx0 | hrx7zx0 => kernel_rfl
        case hQx7zx0 => exact fun _ _ _ h => h
        case hwx7zx0 => rfl
        case hyx7zx0 =>
          intro W hW
          go_simp
          try with_reducible rfl
        simp only [Act.put, List.setIfInBounds_toArray, List.set_cons_succ, List.set_cons_zero]
        refine' wpAnyH_take (i := 8) ?h1x8zx0 ?hsx8zx0 ?hfx8zx0 ?hrx8zx0 ?hQx8zx0 (Or.inl ⟨?hwx8zx0, ?hyx8zx0⟩) hS ?restx8zx0
        case h1x8zx0 => (simp only [List.getElem?_toArray, List.getElem?_cons_succ, List.getElem?_cons_zero]; rfl)
        case hsx8zx0 | hfx8zx0 | hrx8zx0 => kernel_rfl
        case hQx8zx0 => exact fun _ _ _ h => h
        case hwx8zx0 => rfl
        case hyx8zx0 =>
          intro W hW
          go_simp
          try with_reducible rfl
        simp only [Act.put, List.setIfInBounds_toArray, List.set_cons_succ, List.set_cons_zero]
        refine' wpAnyH_take (i := 9) ?h1x9zx0 ?hsx9zx0 ?hfx9zx0 ?hrx9zx0 ?hQx9zx0 (Or.inr ⟨?hwx9zx0, rfl⟩) hS ?restx9zx0
        case h1x9zx0 => (simp only [List.getElem?_toArray, List.getElem?_cons_succ, List.getElem?_cons_zero]; rfl)
        case hsx9zx0 | hfx9zx0 | hrx9zx0 => kernel_rfl
        case hQx9zx0 => exact fun _ _ _ h => h
        case hwx9zx0 => rfl
        simp only [Act.put, List.setIfInBounds_toArray, List.set_cons_succ, List.set_cons_zero]
        refine' wpAnyH_take (i := 10) ?h1x10zx0 ?hsx10zx0 ?hfx10zx0 ?hrx10zx0 ?hQx10zx0 (Or.inr ⟨?hwx10zx0, rfl⟩) hS ?restx10zx0
        case h1x10zx0 => (simp only [List.getElem?_toArray, List.getElem?_cons_succ, List.getElem?_cons_zero]; rfl)
        case hsx10zx0 | hfx10zx0 | hrx10zx0 => kernel_rfl
        case hQx10zx0 => exact fun _ _ _ h => h
        case hwx10zx0 => rfl
        simp only [Act.put, List.setIfInBounds_toArray, List.set_cons_succ, List.set_cons_zero]
        refine' wpAnyH_take (i := 11) ?h1x11zx0 ?hsx11zx0 ?hfx11zx0 ?hrx11zx0 ?hQx11zx0 (Or.inr ⟨?hwx11zx0, rfl⟩) hS ?restx11zx0
        case h1x11zx0 => (simp only [List.getElem?_toArray, List.getElem?_cons_succ, List.getElem?_cons_zero]; rfl)
        case hsx11zx0 | hfx11zx0 | hrx11zx0 => kernel_rfl
        case hQx11zx0 => exact fun _ _ _ h => h
        case hwx11zx0 => rfl
        simp only [Act.put, List.setIfInBounds_toArray, List.set_cons_succ, List.set_cons_zero]
        refine' wpAnyH_take (i := 12) ?h1x12zx0 ?hsx12zx0 ?hfx12zx0 ?hrx12zx0 ?hQx12zx0 (Or.inr ⟨?hwx12zx0, rfl⟩) hS ?restx12zx0
        case h1x12zx0 => (simp only [List.getElem?_toArray, List.getElem?_cons_succ, List.getElem?_cons_zero]; rfl)
        case hsx12zx0 | hfx12zx0 | hrx12zx0 => kernel_rfl
        case hQx12zx0 => exact fun _ _ _ h => h
        case hwx12zx0 => rfl
        simp only [Act.put, List.setIfInBounds_toArray, List.set_cons_succ, List.set_cons_zero]
        refine' wpAnyH_take (i := 13) ?h1x13zx0 ?hsx13zx0 ?hfx13zx0 ?hrx13zx0 ?hQx13zx0 (Or.inr ⟨?hwx13zx0, rfl⟩) hS ?restx13zx0
        case h1x13zx0 => (simp only [List.getElem?_toArray, List.getElem?_cons_succ, List.getElem?_cons_zero]; rfl)
        case hsx13zx0 | hfx13zx0 | hrx13zx0 => kernel_rfl
        case hQx13zx0 => exact fun _ _ _ h => h
        case hwx13zx0 => rfl
        simp only [Act.put, List.setIfInBounds_toArray, List.set_cons_succ, List.set_cons_zero]
        refine' wpAnyH_take (i := 14) ?h1x14zx0 ?hsx14zx0 ?hfx14zx0 ?hrx14zx0 ?hQx14zx0 (Or.inr ⟨?hwx14zx0, rfl⟩) hS ?restx14zx0
        case h1x14zx0 => (simp only [List.getElem?_toArray, List.getElem?_cons_succ, List.getElem?_cons_zero]; rfl)
        case hsx14zx0 | hfx14zx0 | hrx14zx0 => kernel_rfl
        case hQx14zx0 => exact fun _ _ _ h => h
        case hwx14zx0 => rfl
        simp only [Act.put, List.setIfInBounds_toArray, List.set_cons_succ, List.set_cons_zero]
        refine' wpAnyH_take (i := 15) ?h1x15zx0 ?hsx15zx0 ?hfx15zx0 ?hrx15zx0 ?hQx15zx0 (Or.inr ⟨?hwx15zx0, rfl⟩) hS ?restx15zx0
        case h1x15zx0 => (simp only [List.getElem?_toArray, List.getElem?_cons_succ, List.getElem?_cons_zero]; rfl)
        case hsx15zx0 | hfx15zx0 | hrx15zx0 => kernel_rfl
        case hQx15zx0 => exact fun _ _ _ h => h
        case hwx15zx0 => rfl
        simp only [Act.put, List.setIfInBounds_toArray, List.set_cons_succ, List.set_cons_zero]
        refine' wpAnyH_take (i := 16) ?h1x16zx0 ?hsx16zx0 ?hfx16zx0 ?hrx16zx0 ?hQx16zx0 (Or.inl ⟨?hwx16zx0, ?hyx16zx0⟩) hS ?restx16zx0
        case h1x16zx0 => (simp only [List.getElem?_toArray, List.getElem?_cons_succ, List.getElem?_cons_zero]; rfl)
        case hsx16zx0 | hfx16zx0 | hrx16zx0 => kernel_rfl
        case hQx16zx0 => exact fun _ _ _ h => h
        case hwx16zx0 => rfl
        case hyx16zx0 =>
          intro W hW
          go_simp
          try with_reducible rfl
        simp only [Act.put, List.setIfInBounds_toArray, List.set_cons_succ, List.set_cons_zero]
        refine' wpAnyH_take (i := 17) ?h1x17zx0 ?hsx17zx0 ?hfx17zx0 ?hrx17zx0 ?hQx17zx0 (Or.inl ⟨?hwx17zx0, ?hyx17zx0⟩) hS ?restx17zx0
        case h1x17zx0 => (simp only [List.getElem?_toArray, List.getElem?_cons_succ, List.getElem?_cons_zero]; rfl)
        case hsx17zx0 | hfx17zx0 | hrx17zx0 => kernel_rfl
        case hQx17zx0 => exact fun _ _ _ h => h
        case hwx17zx0 => rfl
        case hyx17zx0 =>
          intro W hW
          go_simp
          try with_reducible rfl
        simp only [Act.put, List.setIfInBounds_toArray, List.set_cons_succ, List.set_cons_zero]
        refine' wpAnyH_take (i := 18) ?h1x18zx0 ?hsx18zx0 ?hfx18zx0 ?hrx18zx0 ?hQx18zx0 (Or.inl ⟨?hwx18zx0, ?hyx18zx0⟩) hS ?restx18zx0
        case h1x18zx0 => (simp only [List.getElem?_toArray, List.getElem?_cons_succ, List.getElem?_cons_zero]; rfl)
        case hsx18zx0 | hfx18zx0 | hrx18zx0 => kernel_rfl
        case hQx18zx0 => exact fun _ _ _ h => h
        case hwx18zx0 => rfl
        case hyx18zx0 =>
          intro W hW
          go_simp
          try with_reducible rfl
        simp only [Act.put, List.setIfInBounds_toArray, List.set_cons_succ, List.set_cons_zero]
        refine wpAnyH_done (by kernel_rfl) ?_ _
        go_wp2_with fail
        go_ret
        exact ⟨rfl, B0.out⟩
      | true =>
        refine wp_region_held_drew (S := fun W => Below wg.heap.size wg W ∧ W.heap[w.heap.size]? = some (.cells A 26 (0, 0)) ∧ W.heap[(w.heap.size + 1)]? = some (.cells M 26 (0, 0)) ∧ W.heap[gx]? = some (.cells X 32 (0, 0)) ∧ W.heap[gy]? = some (.cells Y 32 (0, 0))) (by kernel_rfl) (⟨(Below.refl _ _).drew, GA.out, GM.out, GX.out, GY.out⟩) (fun hS => ?_)
        have hb0 : Below wg.heap.size wg wg.drew := (Below.refl _ _).drew
        have qB0 := B0.out.trans (hb0.mono B0.out.size)
        have qNR := NR.out.below hb0
        have qMR := MR.out.below hb0
        have qDX := DX.out.below hb0
        have qDY := DY.out.below hb0
        clear hb0 B0 NR MR DX DY
        generalize wg.drew = Wys at hS qB0 qNR qMR qDX qDY ⊢
        have B0 := Lib.hid qB0
        have NR := Lib.hid qNR
        have MR := Lib.hid qMR
        have DX := Lib.hid qDX
        have DY := Lib.hid qDY
        clear qB0 qNR qMR qDX qDY
        refine wpAnyH_ready (rs := [0]) (by kernel_rfl) (by simp) ?_
        refine' (AllReadyH.cons ?hoc0y (fun K hK => ?stc0y) AllReadyH.nil)
        case hoc0y => (simp only [List.getElem?_toArray, List.getElem?_cons_zero]; rfl)
        go_simp
        refine (AL.out Wys).mono ?_
        rintro e Wyx0 ⟨rfl, hb⟩
        have B0 := Lib.hid (B0.out.trans (hb.mono B0.out.size))
        have NR := Lib.hid (NR.out.below hb)
        have MR := Lib.hid (MR.out.below hb)
        have DX := Lib.hid (DX.out.below hb)
        have DY := Lib.hid (DY.out.below hb)
        go_wp2_with fail
        refine hK.out _ _ (⟨hS.1.trans (hb.mono hS.1.size), (hb.block _ (blk_lt hS.2.1)).trans hS.2.1, (hb.block _ (blk_lt hS.2.2.1)).trans hS.2.2.1, (hb.block _ (blk_lt hS.2.2.2.1)).trans hS.2.2.2.1, (hb.block _ (blk_lt hS.2.2.2.2)).trans hS.2.2.2.2⟩) (fun hHeld => ?_)
        clear hK K
        try simp only [Act.put, List.setIfInBounds_toArray, List.set_cons_succ, List.set_cons_zero]
        clear hS
        have hS := hHeld
        clear hHeld
        clear hb
        refine' wpAnyH_take (i := 1) ?h1x1yx0 ?hsx1yx0 ?hfx1yx0 ?hrx1yx0 ?hQx1yx0 (Or.inl ⟨?hwx1yx0, ?hyx1yx0⟩) hS ?restx1yx0
        case h1x1yx0 => (simp only [List.getElem?_toArray, List.getElem?_cons_succ, List.getElem?_cons_zero]; rfl)
        case hsx1yx0 | hfx1yx0 | hrx1yx0 => kernel_rfl
        case hQx1yx0 => exact fun _ _ _ h => h
        case hwx1yx0 => rfl
        case hyx1yx0 =>
          intro W hW
          go_simp
          try with_reducible rfl
        simp only [Act.put, List.setIfInBounds_toArray, List.set_cons_succ, List.set_cons_zero]
        refine' wpAnyH_take (i := 2) ?h1x2yx0 ?hsx2yx0 ?hfx2yx0 ?hrx2yx0 ?hQx2yx0 (Or.inl ⟨?hwx2yx0, ?hyx2yx0⟩) hS ?restx2yx0
        case h1x2yx0 => (simp only [List.getElem?_toArray, List.getElem?_cons_succ, List.getElem?_cons_zero]; rfl)
        case hsx2yx0 | hfx2yx0 | hrx2yx0 => kernel_rfl
        case hQx2yx0 => exact fun _ _ _ h => h
        case hwx2yx0 => rfl
        case hyx2yx0 =>
          intro W hW
          go_simp
          try with_reducible rfl
        simp only [Act.put, List.setIfInBounds_toArray, List.set_cons_succ, List.set_cons_zero]
        refine' wpAnyH_take (i := 3) ?h1x3yx0 ?hsx3yx0 ?hfx3yx0 ?hrx3yx0 ?hQx3yx0 (Or.inl ⟨?hwx3yx0, ?hyx3yx0⟩) hS ?restx3yx0
        case h1x3yx0 => (simp only [List.getElem?_toArray, List.getElem?_cons_succ, List.getElem?_cons_zero]; rfl)
        case hsx3yx0 | hfx3yx0 | hrx3yx0 => kernel_rfl
        case hQx3yx0 => exact fun _ _ _ h => h
        case hwx3yx0 => rfl
        case hyx3yx0 =>
          intro W hW
          go_simp
          try with_reducible rfl
        simp only [Act.put, List.setIfInBounds_toArray, List.set_cons_succ, List.set_cons_zero]
        refine' wpAnyH_take (i := 4) ?h1x4yx0 ?hsx4yx0 ?hfx4yx0 ?hrx4yx0 ?hQx4yx0 (Or.inl ⟨?hwx4yx0, ?hyx4yx0⟩) hS ?restx4yx0
        case h1x4yx0 => (simp only [List.getElem?_toArray, List.getElem?_cons_succ, List.getElem?_cons_zero]; rfl)
        case hsx4yx0 | hfx4yx0 | hrx4yx0 => kernel_rfl
        case hQx4yx0 => exact fun _ _ _ h => h
        case hwx4yx0 => rfl
        case hyx4yx0 =>
          intro W hW
          go_simp
          try with_reducible rfl
        simp only [Act.put, List.setIfInBounds_toArray, List.set_cons_succ, List.set_cons_zero]
        refine' wpAnyH_take (i := 5) ?h1x5yx0 ?hsx5yx0 ?hfx5yx0 ?hrx5yx0 ?hQx5yx0 (Or.inl ⟨?hwx5yx0, ?hyx5yx0⟩) hS ?restx5yx0
        case h1x5yx0 => (simp only [List.getElem?_toArray, List.getElem?_cons_succ, List.getElem?_cons_zero]; rfl)
        case hsx5yx0 | hfx5yx0 | hrx5yx0 => kernel_rfl
        case hQx5yx0 => exact fun _ _ _ h => h
        case hwx5yx0 => rfl
        case hyx5yx0 =>
          intro W hW
          go_simp
          try with_reducible rfl
        simp only [Act.put, List.setIfInBounds_toArray, List.set_cons_succ, List.set_cons_zero]
        refine' wpAnyH_take (i := 6) ?h1x6yx0 ?hsx6yx0 ?hfx6yx0 ?hrx6yx0 ?hQx6yx0 (Or.inl ⟨?hwx6yx0, ?hyx6yx0⟩) hS ?restx6yx0
        case h1x6yx0 => (simp only [List.getElem?_toArray, List.getElem?_cons_succ, List.getElem?_cons_zero]; rfl)
        case hsx6yx0 | hfx6yx0 | hrx6yx0 => kernel_rfl
        case hQx6yx0 => exact fun _ _ _ h => h
        case hwx6yx0 => rfl
        case hyx6yx0 =>
          intro W hW
          go_simp
          try with_reducible rfl
        simp only [Act.put, List.setIfInBounds_toArray, List.set_cons_succ, List.set_cons_zero]
        refine' wpAnyH_take (i := 7) ?h1x7yx0 ?hsx7yx0 ?hfx7yx0 ?hrx7yx0 ?hQx7yx0 (Or.inl ⟨?hwx7yx0, ?hyx7yx0⟩) hS ?restx7yx0
        case h1x7yx0 => (simp only [List.getElem?_toArray, List.getElem?_cons_succ, List.getElem?_cons_zero]; rfl)
        case hsx7yx0 | hfx7yx0 | hrx7yx0 => kernel_rfl
        case hQx7yx0 => exact fun _ _ _ h => h
        case hwx7yx0 => rfl
        case hyx7yx0 =>
          intro W hW
          go_simp
          try with_reducible rfl
        simp only [Act.put, List.setIfInBounds_toArray, List.set_cons_succ, List.set_cons_zero]
        refine' wpAnyH_take (i := 8) ?h1x8yx0 ?hsx8yx0 ?hfx8yx0 ?hrx8yx0 ?hQx8yx0 (Or.inl ⟨?hwx8yx0, ?hyx8yx0⟩) hS ?restx8yx0
        case h1x8yx0 => (simp only [List.getElem?_toArray, List.getElem?_cons_succ, List.getElem?_cons_zero]; rfl)
        case hsx8yx0 | hfx8yx0 | hrx8yx0 => kernel_rfl
        case hQx8yx0 => exact fun _ _ _ h => h
        case hwx8yx0 => rfl
        case hyx8yx0 =>
          intro W hW
          go_simp
          try with_reducible rfl
        simp only [Act.put, List.setIfInBounds_toArray, List.set_cons_succ, List.set_cons_zero]
        refine' wpAnyH_take (i := 9) ?h1x9yx0 ?hsx9yx0 ?hfx9yx0 ?hrx9yx0 ?hQx9yx0 (yieldsIf_load_at ?hwx9yx0 26 (.tmp 3) ?hopx9yx0 w.heap.size 0 rfl A _ (fun W hW => range_row hW.2.1) Try.underlying26 rfl ?hix9yx0) hS ?restx9yx0
        case h1x9yx0 => (simp only [List.getElem?_toArray, List.getElem?_cons_succ, List.getElem?_cons_zero]; rfl)
        case hopx9yx0 => rfl
        case hsx9yx0 | hfx9yx0 | hrx9yx0 => kernel_rfl
        case hQx9yx0 => exact fun _ _ _ h => h
        case hwx9yx0 => rfl
        case hix9yx0 => exact IA.out
        simp only [Act.put, List.setIfInBounds_toArray, List.set_cons_succ, List.set_cons_zero]
        refine' wpAnyH_take (i := 10) ?h1x10yx0 ?hsx10yx0 ?hfx10yx0 ?hrx10yx0 ?hQx10yx0 (yieldsIf_load_at ?hwx10yx0 26 (.tmp 4) ?hopx10yx0 (w.heap.size + 1) 0 rfl M _ (fun W hW => range_row hW.2.2.1) Try.underlying26 rfl ?hix10yx0) hS ?restx10yx0
        case h1x10yx0 => (simp only [List.getElem?_toArray, List.getElem?_cons_succ, List.getElem?_cons_zero]; rfl)
        case hopx10yx0 => rfl
        case hsx10yx0 | hfx10yx0 | hrx10yx0 => kernel_rfl
        case hQx10yx0 => exact fun _ _ _ h => h
        case hwx10yx0 => rfl
        case hix10yx0 => exact IM.out
        simp only [Act.put, List.setIfInBounds_toArray, List.set_cons_succ, List.set_cons_zero]
        refine' wpAnyH_take (i := 12) ?h1x12yx0 ?hsx12yx0 ?hfx12yx0 ?hrx12yx0 ?hQx12yx0 (yieldsIf_load_at ?hwx12yx0 32 (.tmp 7) ?hopx12yx0 gx 0 rfl X _ (fun W hW => range_row hW.2.2.2.1) Try.underlying32 rfl ?hix12yx0) hS ?restx12yx0
        case h1x12yx0 => (simp only [List.getElem?_toArray, List.getElem?_cons_succ, List.getElem?_cons_zero]; rfl)
        case hopx12yx0 => rfl
        case hsx12yx0 | hfx12yx0 | hrx12yx0 => kernel_rfl
        case hQx12yx0 => exact fun _ _ _ h => h
        case hwx12yx0 => rfl
        case hix12yx0 => exact Igx.out
        simp only [Act.put, List.setIfInBounds_toArray, List.set_cons_succ, List.set_cons_zero]
        refine' wpAnyH_take (i := 13) ?h1x13yx0 ?hsx13yx0 ?hfx13yx0 ?hrx13yx0 ?hQx13yx0 (yieldsIf_load_at ?hwx13yx0 32 (.tmp 9) ?hopx13yx0 gy 0 rfl Y _ (fun W hW => range_row hW.2.2.2.2) Try.underlying32 rfl ?hix13yx0) hS ?restx13yx0
        case h1x13yx0 => (simp only [List.getElem?_toArray, List.getElem?_cons_succ, List.getElem?_cons_zero]; rfl)
        case hopx13yx0 => rfl
        case hsx13yx0 | hfx13yx0 | hrx13yx0 => kernel_rfl
        case hQx13yx0 => exact fun _ _ _ h => h
        case hwx13yx0 => rfl
        case hix13yx0 => exact Igy.out
        simp only [Act.put, List.setIfInBounds_toArray, List.set_cons_succ, List.set_cons_zero]
        refine wpAnyH_ready (rs := [11]) (by kernel_rfl) (by simp) ?_
        refine' (AllReadyH.cons ?hoc11yx0 (fun K hK => ?stc11yx0) AllReadyH.nil)
        case hoc11yx0 => (simp only [List.getElem?_toArray, List.getElem?_cons_succ, List.getElem?_cons_zero]; rfl)
        go_simp
        refine (SNM.out Wyx0 NR.out MR.out).mono ?_
        rintro e Wyx0x11 ⟨rfl, hb⟩
        have B0 := Lib.hid (B0.out.trans (hb.mono B0.out.size))
        have NR := Lib.hid (NR.out.below hb)
        have MR := Lib.hid (MR.out.below hb)
        have DX := Lib.hid (DX.out.below hb)
        have DY := Lib.hid (DY.out.below hb)
        go_wp2_with fail
        refine hK.out _ _ (⟨hS.1.trans (hb.mono hS.1.size), (hb.block _ (blk_lt hS.2.1)).trans hS.2.1, (hb.block _ (blk_lt hS.2.2.1)).trans hS.2.2.1, (hb.block _ (blk_lt hS.2.2.2.1)).trans hS.2.2.2.1, (hb.block _ (blk_lt hS.2.2.2.2)).trans hS.2.2.2.2⟩) (fun hHeld => ?_)
        clear hK K
        try simp only [Act.put, List.setIfInBounds_toArray, List.set_cons_succ, List.set_cons_zero]
        clear hS
        have hS := hHeld
        clear hHeld
        clear hb
        refine wpAnyH_ready (rs := [14]) (by kernel_rfl) (by simp) ?_
        refine' (AllReadyH.cons ?hoc14yx0x11 (fun K hK => ?stc14yx0x11) AllReadyH.nil)
        case hoc14yx0x11 => (simp only [List.getElem?_toArray, List.getElem?_cons_succ, List.getElem?_cons_zero]; rfl)
        go_simp
        refine (SXY.out trivial _ _ Wyx0x11 DX.out DY.out).mono ?_
        rintro e Wyx0x11x14 ⟨rfl, hb⟩
        have B0 := Lib.hid (B0.out.trans (hb.mono B0.out.size))
        have NR := Lib.hid (NR.out.below hb)
        have MR := Lib.hid (MR.out.below hb)
        have DX := Lib.hid (DX.out.below hb)
        have DY := Lib.hid (DY.out.below hb)
        go_wp2_with fail
        refine hK.out _ _ (⟨hS.1.trans (hb.mono hS.1.size), (hb.block _ (blk_lt hS.2.1)).trans hS.2.1, (hb.block _ (blk_lt hS.2.2.1)).trans hS.2.2.1, (hb.block _ (blk_lt hS.2.2.2.1)).trans hS.2.2.2.1, (hb.block _ (blk_lt hS.2.2.2.2)).trans hS.2.2.2.2⟩) (fun hHeld => ?_)
        clear hK K
        try simp only [Act.put, List.setIfInBounds_toArray, List.set_cons_succ, List.set_cons_zero]
        clear hS
        have hS := hHeld
        clear hHeld
        clear hb
        refine' wpAnyH_take (i := 15) ?h1x15yx0x11x14 ?hsx15yx0x11x14 ?hfx15yx0x11x14 ?hrx15yx0x11x14 ?hQx15yx0x11x14 (Or.inl ⟨?hwx15yx0x11x14, ?hyx15yx0x11x14⟩) hS ?restx15yx0x11x14
        case h1x15yx0x11x14 => (simp only [List.getElem?_toArray, List.getElem?_cons_succ, List.getElem?_cons_zero]; rfl)
        case hsx15yx0x11x14 | hfx15yx0x11x14 | hrx15yx0x11x14 => kernel_rfl
        case hQx15yx0x11x14 => exact fun _ _ _ h => h
        case hwx15yx0x11x14 => rfl
        case hyx15yx0x11x14 =>
          intro W hW
          go_simp
          try with_reducible rfl
        simp only [Act.put, List.setIfInBounds_toArray, List.set_cons_succ, List.set_cons_zero]
        refine' wpAnyH_take (i := 16) ?h1x16yx0x11x14 ?hsx16yx0x11x14 ?hfx16yx0x11x14 ?hrx16yx0x11x14 ?hQx16yx0x11x14 (Or.inl ⟨?hwx16yx0x11x14, ?hyx16yx0x11x14⟩) hS ?restx16yx0x11x14
        case h1x16yx0x11x14 => (simp only [List.getElem?_toArray, List.getElem?_cons_succ, List.getElem?_cons_zero]; rfl)
        case hsx16yx0x11x14 | hfx16yx0x11x14 | hrx16yx0x11x14 => kernel_rfl
        case hQx16yx0x11x14 => exact fun _ _ _ h => h
        case hwx16yx0x11x14 => rfl
        case hyx16yx0x11x14 =>
          intro W hW
          go_simp
          try with_reducible rfl
        simp only [Act.put, List.setIfInBounds_toArray, List.set_cons_succ, List.set_cons_zero]
        refine' wpAnyH_take (i := 17) ?h1x17yx0x11x14 ?hsx17yx0x11x14 ?hfx17yx0x11x14 ?hrx17yx0x11x14 ?hQx17yx0x11x14 (Or.inl ⟨?hwx17yx0x11x14, ?hyx17yx0x11x14⟩) hS ?restx17yx0x11x14
        case h1x17yx0x11x14 => (simp only [List.getElem?_toArray, List.getElem?_cons_succ, List.getElem?_cons_zero]; rfl)
        case hsx17yx0x11x14 | hfx17yx0x11x14 | hrx17yx0x11x14 => kernel_rfl
        case hQx17yx0x11x14 => exact fun _ _ _ h => h
        case hwx17yx0x11x14 => rfl
        case hyx17yx0x11x14 =>
          intro W hW
          go_simp
          try with_reducible rfl
        simp only [Act.put, List.setIfInBounds_toArray, List.set_cons_succ, List.set_cons_zero]
        refine' wpAnyH_take (i := 18) ?h1x18yx0x11x14 ?hsx18yx0x11x14 ?hfx18yx0x11x14 ?hrx18yx0x11x14 ?hQx18yx0x11x14 (Or.inl ⟨?hwx18yx0x11x14, ?hyx18yx0x11x14⟩) hS ?restx18yx0x11x14
        case h1x18yx0x11x14 => (simp only [List.getElem?_toArray, List.getElem?_cons_succ, List.getElem?_cons_zero]; rfl)
        case hsx18yx0x11x14 | hfx18yx0x11x14 | hrx18yx0x11x14 => kernel_rfl
        case hQx18yx0x11x14 => exact fun _ _ _ h => h
        case hwx18yx0x11x14 => rfl
        case hyx18yx0x11x14 =>
          intro W hW
          go_simp
          try with_reducible rfl
        simp only [Act.put, List.setIfInBounds_toArray, List.set_cons_succ, List.set_cons_zero]
        refine wpAnyH_done (by kernel_rfl) ?_ _
        go_wp2_with fail
        go_ret
        exact ⟨rfl, B0.out⟩
set_option maxRecDepth 100000 in
set_option maxHeartbeats 32000000 in
theorem bytes_m101xx (A M : Array Value) (n m : NV) (xs : List Int) (v : Value) (w : World) (hn : ND w (.agg A) n) (hm : ND w (.agg M) m) (hs : Sees w v xs) (fn : ∀ p ∈ n.qs, 0 ≤ p.1 ∧ p.1 ≤ 4294967295) (fm : ∀ p ∈ m.qs, 0 ≤ p.1 ∧ p.1 ≤ 4294967295) (hgn : greatB n = false) (hgm : greatB m = false) (hl : xs.length ≤ 2000) (hok : okN n = true) (hrd : rightD (asN n) = false) (his : isN xs = true) : Calls Try.prog 3 #[.agg A, .agg M, v] w (AliveP w) := by
  obtain ⟨xv, cv, rfl, h63⟩ := hs.form
  have IA := Lib.hid hn.info
  have IM := Lib.hid hm.info
  have AL := Lib.hid alive8
  obtain ⟨W1, hW1⟩ : ∃ W1, W1 = (w.alloc (.cells A 26)).alloc (.cells M 26) := ⟨_, rfl⟩
  have b0 : Below w.heap.size w (w.alloc (.cells A 26)) := (Below.refl _ _).alloc (Nat.le_refl _) _
  have b1 : Below w.heap.size w W1 := by rw [hW1]; exact b0.alloc (by simp) _
  have GA : Hid (W1.heap[w.heap.size]? = some (.cells A 26 (0, 0))) := by show _ = _; rw [hW1, Below.heap_alloc _ _ _ (by simp)]; exact heap_alloc_new w _
  have GM : Hid (W1.heap[w.heap.size + 1]? = some (.cells M 26 (0, 0))) := by
    show _ = _
    rw [hW1]
    have := heap_alloc_new (w.alloc (.cells A 26)) (.cells M 26)
    simpa using this
  have NR := Lib.hid (hn.below b1)
  have MR := Lib.hid (hm.below b1)
  have SB := Lib.hid (hs.below b1)
  have B0 := Lib.hid b1
  have HW1 := Lib.hid hW1
  have HBY := Lib.hid hs.1
  obtain ⟨kb, hkm⟩ : ∃ kb, okN m = kb := ⟨_, rfl⟩
  have GTn : Hid (∀ v W, ND W v n → Calls Try.prog 7 #[v] W fun e w' => e = .returned (.bool false) ∧ Below W.heap.size W w') := fun v W h => by have := great v n W h; rw [hgn] at this; exact this
  have GTm : Hid (∀ v W, ND W v m → Calls Try.prog 7 #[v] W fun e w' => e = .returned (.bool false) ∧ Below W.heap.size W w') := fun v W h => by have := great v m W h; rw [hgm] at this; exact this
  have hll : (xs.length : Int) ≤ 2000 := by omega
  have n30 : n.ks.length ≤ 100 := by unfold greatB at hgn; simp only [Bool.or_eq_false_iff, decide_eq_false_iff_not] at hgn; omega
  have m30 : m.ks.length ≤ 100 := by unfold greatB at hgm; simp only [Bool.or_eq_false_iff, decide_eq_false_iff_not] at hgm; omega
  have np : n.okP := by obtain ⟨_, _, _, _, h1, _, _, h4, h5⟩ := hn; exact ⟨h1.1, h4, h5⟩
  have hrb : rightB n.leaf n.ks n.vs.length n.qs.length = false := by rw [right_eq np, hok, hrd]; rfl
  have xl : (asN n).l.length ≤ 100 := by
    unfold asN
    by_cases h : okN n = true
    · rw [if_pos h, parts_len]; exact n30
    · rw [if_neg h]; exact Nat.zero_le _
  have NX := Lib.hid (is_eq hs.1)
  have hisd : isD xs = true := by rw [NX.out.1, his]
  have ACn : Hid (∀ W, ND W (.agg A) n → Calls Try.prog 9 #[.agg A] W fun e w' => ∃ O, e = .returned (.tuple #[.agg O, .bool true]) ∧ DM w' (.agg O) (asN n) ∧ Below W.heap.size W w') := fun W h => by have := asD A n W h n30 fn; unfold AsP at this; rw [hok] at this; exact this
  have ACm : Hid (∀ W, ND W (.agg M) m → Calls Try.prog 9 #[.agg M] W fun e w' => ∃ O, e = .returned (.tuple #[.agg O, .bool kb]) ∧ DM w' (.agg O) (asN m) ∧ Below W.heap.size W w') := fun W h => by have := asD M m W h m30 fm; unfold AsP at this; rw [hkm] at this; exact this
  have WR : Hid (∀ v W, ND W v n → Calls Try.prog 10 #[v] W fun e w' => ∃ q, e = .returned (.tuple #[q, .int .i64 3]) ∧ Sees w' q [] ∧ Below W.heap.size W w') := fun v W h => by
    have := write v n W h fn
    unfold WriteP wrE wrV at this
    rw [hrb] at this
    exact this
  have RT : Hid (∀ v W, ND W v n → Calls Try.prog 12 #[v] W fun e w' => e = .returned (.bool false) ∧ Below W.heap.size W w') := fun v W h => by have := rightN v n W h; rw [hrb] at this; exact this
  have RC : Hid (∀ O W, DM W (.agg O) (asN n) → Calls Try.prog 11 #[.agg O] W fun e w' => e = .returned (.bool false) ∧ Below W.heap.size W w') := fun O W h => by have := rightDC O (asN n) W h xl; rw [hrd] at this; exact this
  have WD : Hid (∀ O W, DM W (.agg O) (asN n) → Calls Try.prog 13 #[.agg O] W fun e w' => ∃ q, e = .returned (.tuple #[q, .int .i64 3]) ∧ Sees w' q [] ∧ Below W.heap.size W w') := fun O W h => by
    have := writeD O (asN n) W h xl
    unfold WrP at this
    rw [hrd] at this
    exact this
  have CP := Lib.hid (fun v W (h : Sees W v xs) => oc.copy v xs (by omega) W h)
  obtain ⟨gt, hgt⟩ : ∃ gt, gt = rdN xs := ⟨_, rfl⟩
  obtain ⟨zd, hzd⟩ : ∃ zd, zd = rdD xs := ⟨_, rfl⟩
  have RF : Hid (∀ v W, Sees W v xs → Calls Try.prog 15 #[v] W fun e w' => ∃ U, e = .returned (.tuple #[.agg U, .int .i64 0]) ∧ ND w' (.agg U) gt ∧ freshN W.heap.size (.agg U) ∧ Below W.heap.size W w') := fun v W h => by
    have := readF v xs W h (by omega)
    unfold ReadPF at this
    rw [his] at this
    refine this.mono fun e w' ⟨u, q1, q2, q3, q4⟩ => ?_
    obtain ⟨K, V, Q, rfl, _⟩ := id q2
    exact ⟨_, q1, by rw [hgt]; exact q2, q3, q4⟩
  have RDC : Hid (∀ v W, Sees W v xs → Calls Try.prog 16 #[v] W fun e w' => ∃ O, e = .returned (.tuple #[.agg O, .int .i64 0]) ∧ DM w' (.agg O) zd ∧ Below W.heap.size W w') := fun v W h => by
    have := readD v xs W h
    unfold ReadDP at this
    rw [hisd] at this
    rw [hzd]
    exact this
  have SLC : Hid (∀ U O W, ND W (.agg U) gt → DM W (.agg O) zd → Calls Try.prog 17 #[.agg U, .agg O] W fun e w' => e = .returned (.bool true) ∧ Below W.heap.size W w') := fun U O W h1 h2 => by
    rw [hgt] at h1
    rw [hzd] at h2
    have hc : (rdN xs).ks.length ≤ 100 := by
      have h9 := (isN_parts his).1
      unfold rightB at h9
      simp only [Bool.and_eq_true, decide_eq_true_eq] at h9
      obtain ⟨⟨_, h8, _⟩, _⟩ := h9
      cases hq : (rdN xs).leaf <;> rw [hq] at h8 <;> simp at h8 <;> omega
    have := sameL U O (rdN xs) (rdD xs) W h1 h1.info hc (rdN_fit hs.1) h2
    rw [(NX.out.2 his).1, (NX.out.2 his).2, show sameD (rdD xs) (rdD xs) = true by simp [sameD]] at this
    exact this
  obtain ⟨sb, hsb⟩ : ∃ sb, sb = sameB n m := ⟨_, rfl⟩
  have SNM : Hid (∀ W, ND W (.agg A) n → ND W (.agg M) m → Calls Try.prog 18 #[.agg A, .agg M] W fun e w' => e = .returned (.bool sb) ∧ Below W.heap.size W w') := fun W h1 h2 => by rw [hsb]; exact same _ _ n m W h1 h2
  have SXY : Hid (kb = true → ∀ X Y W, DM W (.agg X) (asN n) → DM W (.agg Y) (asN m) → Calls Try.prog 19 #[.agg X, .agg Y] W fun e w' => e = .returned (.bool sb) ∧ Below W.heap.size W w') := fun hk X Y W h1 h2 => by rw [hsb, same_eq hok (hkm.trans hk) fn fm]; exact sameDC X Y (asN n) (asN m) W h1 h2 xl
  have hz26 := z26
  have hz32 := z32
  have b26z := b26
  obtain ⟨Zn, hZn⟩ : ∃ Zn : Array Value, Zn = #[.bool false, .slice none 0 0, .slice none 0 0, .slice none 0 0] := ⟨_, rfl⟩
  obtain ⟨Zd, hZd⟩ : ∃ Zd : Array Value, Zd = #[.bool false, .slice none 0 0] := ⟨_, rfl⟩
  rw [← hZn] at hz26 b26z
  rw [← hZd] at hz32
  have BZ := Lib.hid b26z
  have NZ : Hid (∀ W, ND W (.agg Zn) nz) := fun W => by rw [hZn]; exact nd_nz W
  have ZnN : Hid (Zn.size = 4) := by show _ = _; rw [hZn]; rfl
  have ZdN : Hid (Zd.size = 2) := by show _ = _; rw [hZd]; rfl
  clear hW1 b0 b1 hn hm hs fn fm hgn hgm hl hok hrd his hkm n30 m30 np hrb xl hisd b26z hZn hZd hgt hzd NX hsb
  generalize asN n = xn at *
  generalize asN m = ym at *
  go_enter Try.func3, Try.ntmps3
  go_upto_region 1 with (fail)
  rw [← HW1.out]
  go_wp2_with (refine wpList_load_row rfl 26 (.tmp 3) rfl w.heap.size rfl 26 A (0, 0) _ GA.out Try.underlying26 rfl IA.out ?_)
  refine (GTn.out _ _ NR.out).mono ?_
  rintro e w1 ⟨rfl, hb⟩
  have B0 := Lib.hid (B0.out.trans (hb.mono B0.out.size))
  have GA := Lib.hid ((hb.block _ (blk_lt GA.out)).trans GA.out)
  have GM := Lib.hid ((hb.block _ (blk_lt GM.out)).trans GM.out)
  have NR := Lib.hid (NR.out.below hb)
  have MR := Lib.hid (MR.out.below hb)
  have SB := Lib.hid (SB.out.below hb)
  clear hb
  go_wp2_with (refine wpList_load_met rfl 26 (.tmp 4) rfl (w.heap.size + 1) rfl 26 M (0, 0) _ GM.out Try.underlying26 ⟨_, rfl⟩ IM.out ?_)
  refine (GTm.out _ _ MR.out).mono ?_
  rintro e w2 ⟨rfl, hb⟩
  have B0 := Lib.hid (B0.out.trans (hb.mono B0.out.size))
  have GA := Lib.hid ((hb.block _ (blk_lt GA.out)).trans GA.out)
  have GM := Lib.hid ((hb.block _ (blk_lt GM.out)).trans GM.out)
  have NR := Lib.hid (NR.out.below hb)
  have MR := Lib.hid (MR.out.below hb)
  have SB := Lib.hid (SB.out.below hb)
  clear hb
  go_upto_region 3 with (fail)
  go_wp2_with (refine wpList_load_row rfl 26 (.tmp 3) rfl w.heap.size rfl 26 A (0, 0) _ GA.out Try.underlying26 rfl IA.out ?_)
  refine (ACn.out _ NR.out).mono ?_
  rintro e w3 ⟨X, rfl, hd, hb⟩
  have B0 := Lib.hid (B0.out.trans (hb.mono B0.out.size))
  have GA := Lib.hid ((hb.block _ (blk_lt GA.out)).trans GA.out)
  have GM := Lib.hid ((hb.block _ (blk_lt GM.out)).trans GM.out)
  have NR := Lib.hid (NR.out.below hb)
  have MR := Lib.hid (MR.out.below hb)
  have SB := Lib.hid (SB.out.below hb)
  have DX := Lib.hid hd
  clear hd
  clear hb
  have Sgx : Hid (Zd.size = X.size) := by show _ = _; rw [ZdN.out, DX.out.two]
  have Igx := Lib.hid DX.out.info
  have Ogx := Lib.hid DX.out.one
  have GN := Lib.hid (heap_alloc_new w3 (.cells Zd 32))
  have RW := Lib.hid (alloc_setRowT w3 Zd X 32 _ rfl)
  have hb : Below w3.heap.size w3 (w3.alloc (.cells X 32)) := (Below.refl _ _).alloc (Nat.le_refl _) _
  have GX := Lib.hid (heap_alloc_new w3 (.cells X 32))
  have B0 := Lib.hid (B0.out.trans (hb.mono B0.out.size))
  have GA := Lib.hid ((hb.block _ (blk_lt GA.out)).trans GA.out)
  have GM := Lib.hid ((hb.block _ (blk_lt GM.out)).trans GM.out)
  have NR := Lib.hid (NR.out.below hb)
  have MR := Lib.hid (MR.out.below hb)
  have SB := Lib.hid (SB.out.below hb)
  have DX := Lib.hid (DX.out.below hb)
  clear hb
  go_upto_region 4 with (refine wpList_store_row rfl 32 (.tmp 7) (.tmp 37) rfl w3.heap.size X rfl rfl 32 Zd GN.out Igx.out Sgx.out Ogx.out ?_)
  rw [RW.out]
  try simp only [Act.put]
  clear GN RW
  generalize w3.alloc (.cells X 32) = w4 at *
  generalize w3.heap.size = gx at *
  go_wp2_with (refine wpList_load_row rfl 26 (.tmp 4) rfl (w.heap.size + 1) rfl 26 M (0, 0) _ GM.out Try.underlying26 rfl IM.out ?_)
  refine (ACm.out _ MR.out).mono ?_
  rintro e w5 ⟨Y, rfl, hd, hb⟩
  have B0 := Lib.hid (B0.out.trans (hb.mono B0.out.size))
  have GA := Lib.hid ((hb.block _ (blk_lt GA.out)).trans GA.out)
  have GM := Lib.hid ((hb.block _ (blk_lt GM.out)).trans GM.out)
  have NR := Lib.hid (NR.out.below hb)
  have MR := Lib.hid (MR.out.below hb)
  have SB := Lib.hid (SB.out.below hb)
  have DX := Lib.hid (DX.out.below hb)
  have GX := Lib.hid ((hb.block _ (blk_lt GX.out)).trans GX.out)
  have DY := Lib.hid hd
  clear hd
  clear hb
  have Sgy : Hid (Zd.size = Y.size) := by show _ = _; rw [ZdN.out, DY.out.two]
  have Igy := Lib.hid DY.out.info
  have Ogy := Lib.hid DY.out.one
  have GN := Lib.hid (heap_alloc_new w5 (.cells Zd 32))
  have RW := Lib.hid (alloc_setRowT w5 Zd Y 32 _ rfl)
  have hb : Below w5.heap.size w5 (w5.alloc (.cells Y 32)) := (Below.refl _ _).alloc (Nat.le_refl _) _
  have GY := Lib.hid (heap_alloc_new w5 (.cells Y 32))
  have B0 := Lib.hid (B0.out.trans (hb.mono B0.out.size))
  have GA := Lib.hid ((hb.block _ (blk_lt GA.out)).trans GA.out)
  have GM := Lib.hid ((hb.block _ (blk_lt GM.out)).trans GM.out)
  have NR := Lib.hid (NR.out.below hb)
  have MR := Lib.hid (MR.out.below hb)
  have SB := Lib.hid (SB.out.below hb)
  have DX := Lib.hid (DX.out.below hb)
  have GX := Lib.hid ((hb.block _ (blk_lt GX.out)).trans GX.out)
  have DY := Lib.hid (DY.out.below hb)
  clear hb
  go_upto_region 5 with (refine wpList_store_row rfl 32 (.tmp 9) (.tmp 42) rfl w5.heap.size Y rfl rfl 32 Zd GN.out Igy.out Sgy.out Ogy.out ?_)
  rw [RW.out]
  try simp only [Act.put]
  clear GN RW
  generalize w5.alloc (.cells Y 32) = w6 at *
  generalize w5.heap.size = gy at *
  go_wp2_with (refine wpList_load_row rfl 26 (.tmp 3) rfl w.heap.size rfl 26 A (0, 0) _ GA.out Try.underlying26 rfl IA.out ?_)
  refine (WR.out _ _ NR.out).mono ?_
  rintro e w7 ⟨q, rfl, hq, hb⟩
  have B0 := Lib.hid (B0.out.trans (hb.mono B0.out.size))
  have GA := Lib.hid ((hb.block _ (blk_lt GA.out)).trans GA.out)
  have GM := Lib.hid ((hb.block _ (blk_lt GM.out)).trans GM.out)
  have NR := Lib.hid (NR.out.below hb)
  have MR := Lib.hid (MR.out.below hb)
  have SB := Lib.hid (SB.out.below hb)
  have DX := Lib.hid (DX.out.below hb)
  have GX := Lib.hid ((hb.block _ (blk_lt GX.out)).trans GX.out)
  have DY := Lib.hid (DY.out.below hb)
  have GY := Lib.hid ((hb.block _ (blk_lt GY.out)).trans GY.out)
  have SW := Lib.hid hq
  obtain ⟨qx, qc, rfl, qm⟩ := hq.form
  clear hq
  clear hb
  go_upto_region 6 with (fail)
  go_wp2_with (refine wpList_load_met rfl 32 (.tmp 7) rfl gx rfl 32 X (0, 0) _ GX.out Try.underlying32 ⟨_, rfl⟩ Igx.out ?_)
  refine (RC.out _ _ DX.out).mono ?_
  rintro e w8 ⟨rfl, hb⟩
  have B0 := Lib.hid (B0.out.trans (hb.mono B0.out.size))
  have GA := Lib.hid ((hb.block _ (blk_lt GA.out)).trans GA.out)
  have GM := Lib.hid ((hb.block _ (blk_lt GM.out)).trans GM.out)
  have NR := Lib.hid (NR.out.below hb)
  have MR := Lib.hid (MR.out.below hb)
  have SB := Lib.hid (SB.out.below hb)
  have DX := Lib.hid (DX.out.below hb)
  have GX := Lib.hid ((hb.block _ (blk_lt GX.out)).trans GX.out)
  have DY := Lib.hid (DY.out.below hb)
  have GY := Lib.hid ((hb.block _ (blk_lt GY.out)).trans GY.out)
  have SW := Lib.hid (SW.out.below hb)
  clear hb
  go_upto_region 7 with (fail)
  go_wp2_with (refine wpList_load_row rfl 26 (.tmp 3) rfl w.heap.size rfl 26 A (0, 0) _ GA.out Try.underlying26 rfl IA.out ?_)
  refine (RT.out _ _ NR.out).mono ?_
  rintro e w9 ⟨rfl, hb⟩
  have B0 := Lib.hid (B0.out.trans (hb.mono B0.out.size))
  have GA := Lib.hid ((hb.block _ (blk_lt GA.out)).trans GA.out)
  have GM := Lib.hid ((hb.block _ (blk_lt GM.out)).trans GM.out)
  have NR := Lib.hid (NR.out.below hb)
  have MR := Lib.hid (MR.out.below hb)
  have SB := Lib.hid (SB.out.below hb)
  have DX := Lib.hid (DX.out.below hb)
  have GX := Lib.hid ((hb.block _ (blk_lt GX.out)).trans GX.out)
  have DY := Lib.hid (DY.out.below hb)
  have GY := Lib.hid ((hb.block _ (blk_lt GY.out)).trans GY.out)
  have SW := Lib.hid (SW.out.below hb)
  clear hb
  go_upto_region 9 with (fail)
  go_wp2_with (refine wpList_load_row rfl 32 (.tmp 7) rfl gx rfl 32 X (0, 0) _ GX.out Try.underlying32 rfl Igx.out ?_)
  refine (WD.out _ _ DX.out).mono ?_
  rintro e wa ⟨q2, rfl, hq, hb⟩
  have B0 := Lib.hid (B0.out.trans (hb.mono B0.out.size))
  have GA := Lib.hid ((hb.block _ (blk_lt GA.out)).trans GA.out)
  have GM := Lib.hid ((hb.block _ (blk_lt GM.out)).trans GM.out)
  have NR := Lib.hid (NR.out.below hb)
  have MR := Lib.hid (MR.out.below hb)
  have SB := Lib.hid (SB.out.below hb)
  have DX := Lib.hid (DX.out.below hb)
  have GX := Lib.hid ((hb.block _ (blk_lt GX.out)).trans GX.out)
  have DY := Lib.hid (DY.out.below hb)
  have GY := Lib.hid ((hb.block _ (blk_lt GY.out)).trans GY.out)
  have SW := Lib.hid (SW.out.below hb)
  have SWT := Lib.hid hq
  obtain ⟨rx, rc2, rfl, rm⟩ := hq.form
  clear hq
  clear hb
  go_upto_region 12 with (fail)
  have NRa := NR
  have MRa := MR
  have SBa := SB
  have DXa := DX
  have DYa := DY
  have GXa := GX
  have GYa := GY
  have GAa := GA
  have GMa := GM
  have B0a := B0
  go_wp2_with fail
  refine (CP.out _ _ SB.out).mono ?_
  rintro e wb ⟨xo, co, rfl, hown, hb⟩
  have B0 := Lib.hid (B0.out.trans (hb.mono B0.out.size))
  have GA := Lib.hid ((hb.block _ (blk_lt GA.out)).trans GA.out)
  have GM := Lib.hid ((hb.block _ (blk_lt GM.out)).trans GM.out)
  have NR := Lib.hid (NR.out.below hb)
  have MR := Lib.hid (MR.out.below hb)
  have SB := Lib.hid (SB.out.below hb)
  have DX := Lib.hid (DX.out.below hb)
  have GX := Lib.hid ((hb.block _ (blk_lt GX.out)).trans GX.out)
  have DY := Lib.hid (DY.out.below hb)
  have GY := Lib.hid ((hb.block _ (blk_lt GY.out)).trans GY.out)
  have SW := Lib.hid (SW.out.below hb)
  have SWT := Lib.hid (SWT.out.below hb)
  have HBC := Lib.hid hb
  have OWN := Lib.hid hown
  clear hown
  clear hb
  go_upto_region 13 with (fail)
  go_wp2_with fail
  have OWNb := OWN
  refine (RF.out _ _ OWN.out.sees).mono ?_
  rintro e wc ⟨U, rfl, hd, hfr, hb⟩
  have B0 := Lib.hid (B0.out.trans (hb.mono B0.out.size))
  have GA := Lib.hid ((hb.block _ (blk_lt GA.out)).trans GA.out)
  have GM := Lib.hid ((hb.block _ (blk_lt GM.out)).trans GM.out)
  have NR := Lib.hid (NR.out.below hb)
  have MR := Lib.hid (MR.out.below hb)
  have SB := Lib.hid (SB.out.below hb)
  have DX := Lib.hid (DX.out.below hb)
  have GX := Lib.hid ((hb.block _ (blk_lt GX.out)).trans GX.out)
  have DY := Lib.hid (DY.out.below hb)
  have GY := Lib.hid ((hb.block _ (blk_lt GY.out)).trans GY.out)
  have SW := Lib.hid (SW.out.below hb)
  have SWT := Lib.hid (SWT.out.below hb)
  have HBC := Lib.hid (HBC.out.trans (hb.mono HBC.out.size))
  have OWN := Lib.hid (OWN.out.below hb)
  have NG := Lib.hid hd
  have FG := Lib.hid hfr
  have OLT : Hid (∀ k, (Value.slice xo xs.length co).ownBlock = some k → k < wb.heap.size) := fun k e => (OWNb.out.2.lt k e).2
  have GUle := Lib.hid hb.size
  clear hd hfr
  clear hb
  have Sgu : Hid (Zn.size = U.size) := by show _ = _; rw [ZnN.out, NG.out.four]
  have Igu := Lib.hid NG.out.info
  have Ogu := Lib.hid NG.out.one
  have GN := Lib.hid (heap_alloc_new wc (.cells Zn 26))
  have RW := Lib.hid (alloc_setRowT wc Zn U 26 _ rfl)
  have hb : Below wc.heap.size wc (wc.alloc (.cells U 26)) := (Below.refl _ _).alloc (Nat.le_refl _) _
  have GU := Lib.hid (heap_alloc_new wc (.cells U 26))
  have B0 := Lib.hid (B0.out.trans (hb.mono B0.out.size))
  have GA := Lib.hid ((hb.block _ (blk_lt GA.out)).trans GA.out)
  have GM := Lib.hid ((hb.block _ (blk_lt GM.out)).trans GM.out)
  have NR := Lib.hid (NR.out.below hb)
  have MR := Lib.hid (MR.out.below hb)
  have SB := Lib.hid (SB.out.below hb)
  have DX := Lib.hid (DX.out.below hb)
  have GX := Lib.hid ((hb.block _ (blk_lt GX.out)).trans GX.out)
  have DY := Lib.hid (DY.out.below hb)
  have GY := Lib.hid ((hb.block _ (blk_lt GY.out)).trans GY.out)
  have SW := Lib.hid (SW.out.below hb)
  have SWT := Lib.hid (SWT.out.below hb)
  have HBC := Lib.hid (HBC.out.trans (hb.mono HBC.out.size))
  have OWN := Lib.hid (OWN.out.below hb)
  have NG := Lib.hid (NG.out.below hb)
  clear hb
  go_upto_region 14 with (refine wpList_store_row rfl 26 (.tmp 17) (.tmp 99) rfl wc.heap.size U rfl rfl 26 Zn GN.out Igu.out Sgu.out Ogu.out ?_)
  rw [RW.out]
  try simp only [Act.put]
  clear GN RW
  generalize wc.alloc (.cells U 26) = wd at *
  generalize wc.heap.size = gu at *
  go_wp2_with fail
  have GUlt : Hid (wb.heap.size ≤ gu) := GUle.out
  have RGU : Hid (∀ k, (Value.slice xo xs.length co).ownBlock = some k → k ≠ gu) := fun k e => by have := OLT.out k e; have := GUlt.out; omega
  refine (show Code.wp _ _ _ _ _ from ?_)
  go_loopw [19] (fun v19 wr => ∃ (i : Nat) (zs : List Int), i ≤ xs.length ∧ v19 = .int .i64 (i : Int) ∧ zs.length = xs.length ∧ Own wr wa.heap.size (.slice xo xs.length co) zs ∧ wd.grownBy wr (Value.slice xo xs.length co).ownBlock ∧ Below wa.heap.size wa wr) (fun v19 _ => xs.length - (intOf v19).toNat)
  case atStart => exact ⟨0, xs, by omega, rfl, rfl, OWN.out, oc.grownBy_refl _ _, HBC.out⟩
  case round =>
    obtain ⟨i, zs, hi, rfl, hzl, hown, hgr, hbc⟩ := hrel
    by_cases hlt : i < xs.length
    · have hii : (i : Int) < (xs.length : Int) := by omega
      obtain ⟨g, rfl, hag, hcell, hfz, hset⟩ := own_set hown (show i < zs.length by omega)
      have hby := hown.1.nth i
      have hx8 := oc.xor8_zero (nth zs i) 255 hby (by decide)
      have hset := hset _ hx8.2
      have HSET := Lib.hid hset
      have HGR := Lib.hid (grown_trans hgr hset.2)
      have HBC2 := Lib.hid (hbc.setCell (p := ⟨g, i, none⟩) hag (.int .u8 (bits .xor .u8 (nth zs i) 255)))
      have k0 := hby.1
      have k1 := hby.2
      have HZL := Lib.hid hzl
      clear hown hgr hbc hset hx8 hby hzl
      go_wp2_with fail
      go_roundw
      case rel => exact ⟨i + 1, zs.set i (bits .xor .u8 (nth zs i) 255), by omega, by go_num, by rw [List.length_set]; exact HZL.out, HSET.out.1, HGR.out, HBC2.out⟩
      case measure => simp [intOf]; omega
    · have hge : ¬ (i : Int) < (xs.length : Int) := by omega
      have HB2 := Lib.hid hbc
      have GU := Lib.hid ((hgr.block _ (blk_lt GU.out) (fun e => RGU.out gu e.symm rfl)).trans GU.out)
      have NG := Lib.hid (NG.out.grown FG.out hgr OLT.out)
      clear hown hgr hbc hzl
      have NR := Lib.hid (NRa.out.below HB2.out)
      have MR := Lib.hid (MRa.out.below HB2.out)
      have SB := Lib.hid (SBa.out.below HB2.out)
      have DX := Lib.hid (DXa.out.below HB2.out)
      have DY := Lib.hid (DYa.out.below HB2.out)
      have GX := Lib.hid ((HB2.out.block _ (blk_lt GXa.out)).trans GXa.out)
      have GY := Lib.hid ((HB2.out.block _ (blk_lt GYa.out)).trans GYa.out)
      have GA := Lib.hid ((HB2.out.block _ (blk_lt GAa.out)).trans GAa.out)
      have GM := Lib.hid ((HB2.out.block _ (blk_lt GMa.out)).trans GMa.out)
      have B0 := Lib.hid (B0a.out.trans (HB2.out.mono B0a.out.size))
      clear NRa MRa SBa DXa DYa GXa GYa GAa GMa B0a
      go_upto_region 18 with (fail)
      go_wp2_with fail
      refine (RDC.out _ _ SB.out).mono ?_
      rintro e we ⟨O, rfl, hd, hb⟩
      have B0 := Lib.hid (B0.out.trans (hb.mono B0.out.size))
      have GA := Lib.hid ((hb.block _ (blk_lt GA.out)).trans GA.out)
      have GM := Lib.hid ((hb.block _ (blk_lt GM.out)).trans GM.out)
      have NR := Lib.hid (NR.out.below hb)
      have MR := Lib.hid (MR.out.below hb)
      have SB := Lib.hid (SB.out.below hb)
      have DX := Lib.hid (DX.out.below hb)
      have GX := Lib.hid ((hb.block _ (blk_lt GX.out)).trans GX.out)
      have DY := Lib.hid (DY.out.below hb)
      have GY := Lib.hid ((hb.block _ (blk_lt GY.out)).trans GY.out)
      have NG := Lib.hid (NG.out.below hb)
      have GU := Lib.hid ((hb.block _ (blk_lt GU.out)).trans GU.out)
      have DZ := Lib.hid hd
      clear hd
      clear hb
      have Sgz : Hid (Zd.size = O.size) := by show _ = _; rw [ZdN.out, DZ.out.two]
      have Igz := Lib.hid DZ.out.info
      have Ogz := Lib.hid DZ.out.one
      have GN := Lib.hid (heap_alloc_new we (.cells Zd 32))
      have RW := Lib.hid (alloc_setRowT we Zd O 32 _ rfl)
      have hb : Below we.heap.size we (we.alloc (.cells O 32)) := (Below.refl _ _).alloc (Nat.le_refl _) _
      have GZ := Lib.hid (heap_alloc_new we (.cells O 32))
      have B0 := Lib.hid (B0.out.trans (hb.mono B0.out.size))
      have GA := Lib.hid ((hb.block _ (blk_lt GA.out)).trans GA.out)
      have GM := Lib.hid ((hb.block _ (blk_lt GM.out)).trans GM.out)
      have NR := Lib.hid (NR.out.below hb)
      have MR := Lib.hid (MR.out.below hb)
      have SB := Lib.hid (SB.out.below hb)
      have DX := Lib.hid (DX.out.below hb)
      have GX := Lib.hid ((hb.block _ (blk_lt GX.out)).trans GX.out)
      have DY := Lib.hid (DY.out.below hb)
      have GY := Lib.hid ((hb.block _ (blk_lt GY.out)).trans GY.out)
      have NG := Lib.hid (NG.out.below hb)
      have GU := Lib.hid ((hb.block _ (blk_lt GU.out)).trans GU.out)
      have DZ := Lib.hid (DZ.out.below hb)
      clear hb
      go_upto_region 19 with (refine wpList_store_row rfl 32 (.tmp 20) (.tmp 118) rfl we.heap.size O rfl rfl 32 Zd GN.out Igz.out Sgz.out Ogz.out ?_)
      rw [RW.out]
      try simp only [Act.put]
      clear GN RW
      generalize we.alloc (.cells O 32) = wf at *
      generalize we.heap.size = gz at *
      go_wp2_with (first | (refine wpList_load_met rfl 26 (.tmp 17) rfl gu rfl 26 U (0, 0) _ GU.out Try.underlying26 ⟨_, rfl⟩ Igu.out ?_) | (refine wpList_load_met rfl 32 (.tmp 20) rfl gz rfl 32 O (0, 0) _ GZ.out Try.underlying32 ⟨_, rfl⟩ Igz.out ?_))
      refine (SLC.out _ _ _ NG.out DZ.out).mono ?_
      rintro e wg ⟨rfl, hb⟩
      have B0 := Lib.hid (B0.out.trans (hb.mono B0.out.size))
      have GA := Lib.hid ((hb.block _ (blk_lt GA.out)).trans GA.out)
      have GM := Lib.hid ((hb.block _ (blk_lt GM.out)).trans GM.out)
      have NR := Lib.hid (NR.out.below hb)
      have MR := Lib.hid (MR.out.below hb)
      have SB := Lib.hid (SB.out.below hb)
      have DX := Lib.hid (DX.out.below hb)
      have GX := Lib.hid ((hb.block _ (blk_lt GX.out)).trans GX.out)
      have DY := Lib.hid (DY.out.below hb)
      have GY := Lib.hid ((hb.block _ (blk_lt GY.out)).trans GY.out)
      have NG := Lib.hid (NG.out.below hb)
      have GU := Lib.hid ((hb.block _ (blk_lt GU.out)).trans GU.out)
      have DZ := Lib.hid (DZ.out.below hb)
      have GZ := Lib.hid ((hb.block _ (blk_lt GZ.out)).trans GZ.out)
      clear hb
      go_upto_region 21 with (fail)
      cases kb with
      | false =>
        refine wp_region_held_drew (S := fun W => Below wg.heap.size wg W) (by kernel_rfl) ((Below.refl _ _).drew) (fun hS => ?_)
        have hb0 : Below wg.heap.size wg wg.drew := (Below.refl _ _).drew
        have qB0 := B0.out.trans (hb0.mono B0.out.size)
        clear hb0 B0
        generalize wg.drew = Wzs at hS qB0 ⊢
        have B0 := Lib.hid qB0
        clear qB0
        refine wpAnyH_ready (rs := [0]) (by kernel_rfl) (by simp) ?_
        refine' (AllReadyH.cons ?hoc0z (fun K hK => ?stc0z) AllReadyH.nil)
        case hoc0z => (simp only [List.getElem?_toArray, List.getElem?_cons_zero]; rfl)
        go_simp
        refine (AL.out Wzs).mono ?_
        rintro e Wzx0 ⟨rfl, hb⟩
        have B0 := Lib.hid (B0.out.trans (hb.mono B0.out.size))
        go_wp2_with fail
        refine hK.out _ _ (hS.trans (hb.mono hS.size)) (fun hHeld => ?_)
        clear hK K
        try simp only [Act.put, List.setIfInBounds_toArray, List.set_cons_succ, List.set_cons_zero]
        clear hS
        have hS := hHeld
        clear hHeld
        clear hb
        refine' wpAnyH_take (i := 1) ?h1x1zx0 ?hsx1zx0 ?hfx1zx0 ?hrx1zx0 ?hQx1zx0 (Or.inl ⟨?hwx1zx0, ?hyx1zx0⟩) hS ?restx1zx0
        case h1x1zx0 => (simp only [List.getElem?_toArray, List.getElem?_cons_succ, List.getElem?_cons_zero]; rfl)
        case hsx1zx0 | hfx1zx0 | hrx1zx0 => kernel_rfl
        case hQx1zx0 => exact fun _ _ _ h => h
        case hwx1zx0 => rfl
        case hyx1zx0 =>
          intro W hW
          go_simp
          try with_reducible rfl
        simp only [Act.put, List.setIfInBounds_toArray, List.set_cons_succ, List.set_cons_zero]
        refine' wpAnyH_take (i := 2) ?h1x2zx0 ?hsx2zx0 ?hfx2zx0 ?hrx2zx0 ?hQx2zx0 (Or.inl ⟨?hwx2zx0, ?hyx2zx0⟩) hS ?restx2zx0
        case h1x2zx0 => (simp only [List.getElem?_toArray, List.getElem?_cons_succ, List.getElem?_cons_zero]; rfl)
        case hsx2zx0 | hfx2zx0 | hrx2zx0 => kernel_rfl
        case hQx2zx0 => exact fun _ _ _ h => h
        case hwx2zx0 => rfl
        case hyx2zx0 =>
          intro W hW
          go_simp
          try with_reducible rfl
        simp only [Act.put, List.setIfInBounds_toArray, List.set_cons_succ, List.set_cons_zero]
        refine' wpAnyH_take (i := 3) ?h1x3zx0 ?hsx3zx0 ?hfx3zx0 ?hrx3zx0 ?hQx3zx0 (Or.inl ⟨?hwx3zx0, ?hyx3zx0⟩) hS ?restx3zx0
        case h1x3zx0 => (simp only [List.getElem?_toArray, List.getElem?_cons_succ, List.getElem?_cons_zero]; rfl)
        case hsx3zx0 | hfx3zx0 | hrx3zx0 => kernel_rfl
        case hQx3zx0 => exact fun _ _ _ h => h
        case hwx3zx0 => rfl
        case hyx3zx0 =>
          intro W hW
          go_simp
          try with_reducible rfl
        simp only [Act.put, List.setIfInBounds_toArray, List.set_cons_succ, List.set_cons_zero]
        refine' wpAnyH_take (i := 4) ?h1x4zx0 ?hsx4zx0 ?hfx4zx0 ?hrx4zx0 ?hQx4zx0 (Or.inl ⟨?hwx4zx0, ?hyx4zx0⟩) hS ?restx4zx0
        case h1x4zx0 => (simp only [List.getElem?_toArray, List.getElem?_cons_succ, List.getElem?_cons_zero]; rfl)
        case hsx4zx0 | hfx4zx0 | hrx4zx0 => kernel_rfl
        case hQx4zx0 => exact fun _ _ _ h => h
        case hwx4zx0 => rfl
        case hyx4zx0 =>
          intro W hW
          go_simp
          try with_reducible rfl
        simp only [Act.put, List.setIfInBounds_toArray, List.set_cons_succ, List.set_cons_zero]
        refine' wpAnyH_take (i := 5) ?h1x5zx0 ?hsx5zx0 ?hfx5zx0 ?hrx5zx0 ?hQx5zx0 (Or.inl ⟨?hwx5zx0, ?hyx5zx0⟩) hS ?restx5zx0
        case h1x5zx0 => (simp only [List.getElem?_toArray, List.getElem?_cons_succ, List.getElem?_cons_zero]; rfl)
        case hsx5zx0 | hfx5zx0 | hrx5zx0 => kernel_rfl
        case hQx5zx0 => exact fun _ _ _ h => h
        case hwx5zx0 => rfl
        case hyx5zx0 =>
          intro W hW
          go_simp
          try with_reducible rfl
        simp only [Act.put, List.setIfInBounds_toArray, List.set_cons_succ, List.set_cons_zero]
        refine' wpAnyH_take (i := 6) ?h1x6zx0 ?hsx6zx0 ?hfx6zx0 ?hrx6zx0 ?hQx6zx0 (Or.inl ⟨?hwx6zx0, ?hyx6zx0⟩) hS ?restx6zx0
        case h1x6zx0 => (simp only [List.getElem?_toArray, List.getElem?_cons_succ, List.getElem?_cons_zero]; rfl)
        case hsx6zx0 | hfx6zx0 | hrx6zx0 => kernel_rfl
        case hQx6zx0 => exact fun _ _ _ h => h
        case hwx6zx0 => rfl
        case hyx6zx0 =>
          intro W hW
          go_simp
          try with_reducible rfl
        simp only [Act.put, List.setIfInBounds_toArray, List.set_cons_succ, List.set_cons_zero]
        refine' wpAnyH_take (i := 7) ?h1x7zx0 ?hsx7zx0 ?hfx7zx0 ?hrx7zx0 ?hQx7zx0 (Or.inl ⟨?hwx7zx0, ?hyx7zx0⟩) hS ?restx7zx0
        case h1x7zx0 => (simp only [List.getElem?_toArray, List.getElem?_cons_succ, List.getElem?_cons_zero]; rfl)
        case hsx7zx0 | hfx7zx0 | hrx7zx0 => kernel_rfl
        case hQx7zx0 => exact fun _ _ _ h => h
        case hwx7zx0 => rfl
        case hyx7zx0 =>
          intro W hW
          go_simp
          try with_reducible rfl
        simp only [Act.put, List.setIfInBounds_toArray, List.set_cons_succ, List.set_cons_zero]
        refine' wpAnyH_take (i := 8) ?h1x8zx0 ?hsx8zx0 ?hfx8zx0 ?hrx8zx0 ?hQx8zx0 (Or.inl ⟨?hwx8zx0, ?hyx8zx0⟩) hS ?restx8zx0
        case h1x8zx0 => (simp only [List.getElem?_toArray, List.getElem?_cons_succ, List.getElem?_cons_zero]; rfl)
        case hsx8zx0 | hfx8zx0 | hrx8zx0 => kernel_rfl
        case hQx8zx0 => exact fun _ _ _ h => h
        case hwx8zx0 => rfl
        case hyx8zx0 =>
          intro W hW
          go_simp
          try with_reducible rfl
        simp only [Act.put, List.setIfInBounds_toArray, List.set_cons_succ, List.set_cons_zero]
        refine' wpAnyH_take (i := 9) ?h1x9zx0 ?hsx9zx0 ?hfx9zx0 ?hrx9zx0 ?hQx9zx0 (Or.inr ⟨?hwx9zx0, rfl⟩) hS ?restx9zx0
        case h1x9zx0 => (simp only [List.getElem?_toArray, List.getElem?_cons_succ, List.getElem?_cons_zero]; rfl)
        case hsx9zx0 | hfx9zx0 | hrx9zx0 => kernel_rfl
        case hQx9zx0 => exact fun _ _ _ h => h
        case hwx9zx0 => rfl
        simp only [Act.put, List.setIfInBounds_toArray, List.set_cons_succ, List.set_cons_zero]
        refine' wpAnyH_take (i := 10) ?h1x10zx0 ?hsx10zx0 ?hfx10zx0 ?hrx10zx0 ?hQx10zx0 (Or.inr ⟨?hwx10zx0, rfl⟩) hS ?restx10zx0
        case h1x10zx0 => (simp only [List.getElem?_toArray, List.getElem?_cons_succ, List.getElem?_cons_zero]; rfl)
        case hsx10zx0 | hfx10zx0 | hrx10zx0 => kernel_rfl
        case hQx10zx0 => exact fun _ _ _ h => h
        case hwx10zx0 => rfl
        simp only [Act.put, List.setIfInBounds_toArray, List.set_cons_succ, List.set_cons_zero]
        refine' wpAnyH_take (i := 11) ?h1x11zx0 ?hsx11zx0 ?hfx11zx0 ?hrx11zx0 ?hQx11zx0 (Or.inr ⟨?hwx11zx0, rfl⟩) hS ?restx11zx0
        case h1x11zx0 => (simp only [List.getElem?_toArray, List.getElem?_cons_succ, List.getElem?_cons_zero]; rfl)
        case hsx11zx0 | hfx11zx0 | hrx11zx0 => kernel_rfl
        case hQx11zx0 => exact fun _ _ _ h => h
        case hwx11zx0 => rfl
        simp only [Act.put, List.setIfInBounds_toArray, List.set_cons_succ, List.set_cons_zero]
        refine' wpAnyH_take (i := 12) ?h1x12zx0 ?hsx12zx0 ?hfx12zx0 ?hrx12zx0 ?hQx12zx0 (Or.inr ⟨?hwx12zx0, rfl⟩) hS ?restx12zx0
        case h1x12zx0 => (simp only [List.getElem?_toArray, List.getElem?_cons_succ, List.getElem?_cons_zero]; rfl)
        case hsx12zx0 | hfx12zx0 | hrx12zx0 => kernel_rfl
        case hQx12zx0 => exact fun _ _ _ h => h
        case hwx12zx0 => rfl
        simp only [Act.put, List.setIfInBounds_toArray, List.set_cons_succ, List.set_cons_zero]
        refine' wpAnyH_take (i := 13) ?h1x13zx0 ?hsx13zx0 ?hfx13zx0 ?hrx13zx0 ?hQx13zx0 (Or.inr ⟨?hwx13zx0, rfl⟩) hS ?restx13zx0
        case h1x13zx0 => (simp only [List.getElem?_toArray, List.getElem?_cons_succ, List.getElem?_cons_zero]; rfl)
        case hsx13zx0 | hfx13zx0 | hrx13zx0 => kernel_rfl
        case hQx13zx0 => exact fun _ _ _ h => h
        case hwx13zx0 => rfl
        simp only [Act.put, List.setIfInBounds_toArray, List.set_cons_succ, List.set_cons_zero]
        refine' wpAnyH_take (i := 14) ?h1x14zx0 ?hsx14zx0 ?hfx14zx0 ?hrx14zx0 ?hQx14zx0 (Or.inr ⟨?hwx14zx0, rfl⟩) hS ?restx14zx0
        case h1x14zx0 => (simp only [List.getElem?_toArray, List.getElem?_cons_succ, List.getElem?_cons_zero]; rfl)
        case hsx14zx0 | hfx14zx0 | hrx14zx0 => kernel_rfl
        case hQx14zx0 => exact fun _ _ _ h => h
        case hwx14zx0 => rfl
        simp only [Act.put, List.setIfInBounds_toArray, List.set_cons_succ, List.set_cons_zero]
        refine' wpAnyH_take (i := 15) ?h1x15zx0 ?hsx15zx0 ?hfx15zx0 ?hrx15zx0 ?hQx15zx0 (Or.inr ⟨?hwx15zx0, rfl⟩) hS ?restx15zx0
        case h1x15zx0 => (simp only [List.getElem?_toArray, List.getElem?_cons_succ, List.getElem?_cons_zero]; rfl)
        case hsx15zx0 | hfx15zx0 | hrx15zx0 => kernel_rfl
        case hQx15zx0 => exact fun _ _ _ h => h
        case hwx15zx0 => rfl
        simp only [Act.put, List.setIfInBounds_toArray, List.set_cons_succ, List.set_cons_zero]
        refine' wpAnyH_take (i := 16) ?h1x16zx0 ?hsx16zx0 ?hfx16zx0 ?hrx16zx0 ?hQx16zx0 (Or.inl ⟨?hwx16zx0, ?hyx16zx0⟩) hS ?restx16zx0
        case h1x16zx0 => (simp only [List.getElem?_toArray, List.getElem?_cons_succ, List.getElem?_cons_zero]; rfl)
        case hsx16zx0 | hfx16zx0 | hrx16zx0 => kernel_rfl
        case hQx16zx0 => exact fun _ _ _ h => h
        case hwx16zx0 => rfl
        case hyx16zx0 =>
          intro W hW
          go_simp
          try with_reducible rfl
        simp only [Act.put, List.setIfInBounds_toArray, List.set_cons_succ, List.set_cons_zero]
        refine' wpAnyH_take (i := 17) ?h1x17zx0 ?hsx17zx0 ?hfx17zx0 ?hrx17zx0 ?hQx17zx0 (Or.inl ⟨?hwx17zx0, ?hyx17zx0⟩) hS ?restx17zx0
        case h1x17zx0 => (simp only [List.getElem?_toArray, List.getElem?_cons_succ, List.getElem?_cons_zero]; rfl)
        case hsx17zx0 | hfx17zx0 | hrx17zx0 => kernel_rfl
        case hQx17zx0 => exact fun _ _ _ h => h
        case hwx17zx0 => rfl
        case hyx17zx0 =>
          intro W hW
          go_simp
          try with_reducible rfl
        simp only [Act.put, List.setIfInBounds_toArray, List.set_cons_succ, List.set_cons_zero]
        refine' wpAnyH_take (i := 18) ?h1x18zx0 ?hsx18zx0 ?hfx18zx0 ?hrx18zx0 ?hQx18zx0 (Or.inl ⟨?hwx18zx0, ?hyx18zx0⟩) hS ?restx18zx0
        case h1x18zx0 => (simp only [List.getElem?_toArray, List.getElem?_cons_succ, List.getElem?_cons_zero]; rfl)
        case hsx18zx0 | hfx18zx0 | hrx18zx0 => kernel_rfl
        case hQx18zx0 => exact fun _ _ _ h => h
        case hwx18zx0 => rfl
        case hyx18zx0 =>
          intro W hW
          go_simp
          try with_reducible rfl
        simp only [Act.put, List.setIfInBounds_toArray, List.set_cons_succ, List.set_cons_zero]
        refine wpAnyH_done (by kernel_rfl) ?_ _
        go_wp2_with fail
        go_ret
        exact ⟨rfl, B0.out⟩
      | true =>
        refine wp_region_held_drew (S := fun W => Below wg.heap.size wg W ∧ W.heap[w.heap.size]? = some (.cells A 26 (0, 0)) ∧ W.heap[(w.heap.size + 1)]? = some (.cells M 26 (0, 0)) ∧ W.heap[gx]? = some (.cells X 32 (0, 0)) ∧ W.heap[gy]? = some (.cells Y 32 (0, 0))) (by kernel_rfl) (⟨(Below.refl _ _).drew, GA.out, GM.out, GX.out, GY.out⟩) (fun hS => ?_)
        have hb0 : Below wg.heap.size wg wg.drew := (Below.refl _ _).drew
        have qB0 := B0.out.trans (hb0.mono B0.out.size)
        have qNR := NR.out.below hb0
        have qMR := MR.out.below hb0
        have qDX := DX.out.below hb0
        have qDY := DY.out.below hb0
        clear hb0 B0 NR MR DX DY
        generalize wg.drew = Wys at hS qB0 qNR qMR qDX qDY ⊢
        have B0 := Lib.hid qB0
        have NR := Lib.hid qNR
        have MR := Lib.hid qMR
        have DX := Lib.hid qDX
        have DY := Lib.hid qDY
        clear qB0 qNR qMR qDX qDY
        refine wpAnyH_ready (rs := [0]) (by kernel_rfl) (by simp) ?_
        refine' (AllReadyH.cons ?hoc0y (fun K hK => ?stc0y) AllReadyH.nil)
        case hoc0y => (simp only [List.getElem?_toArray, List.getElem?_cons_zero]; rfl)
        go_simp
        refine (AL.out Wys).mono ?_
        rintro e Wyx0 ⟨rfl, hb⟩
        have B0 := Lib.hid (B0.out.trans (hb.mono B0.out.size))
        have NR := Lib.hid (NR.out.below hb)
        have MR := Lib.hid (MR.out.below hb)
        have DX := Lib.hid (DX.out.below hb)
        have DY := Lib.hid (DY.out.below hb)
        go_wp2_with fail
        refine hK.out _ _ (⟨hS.1.trans (hb.mono hS.1.size), (hb.block _ (blk_lt hS.2.1)).trans hS.2.1, (hb.block _ (blk_lt hS.2.2.1)).trans hS.2.2.1, (hb.block _ (blk_lt hS.2.2.2.1)).trans hS.2.2.2.1, (hb.block _ (blk_lt hS.2.2.2.2)).trans hS.2.2.2.2⟩) (fun hHeld => ?_)
        clear hK K
        try simp only [Act.put, List.setIfInBounds_toArray, List.set_cons_succ, List.set_cons_zero]
        clear hS
        have hS := hHeld
        clear hHeld
        clear hb
        refine' wpAnyH_take (i := 1) ?h1x1yx0 ?hsx1yx0 ?hfx1yx0 ?hrx1yx0 ?hQx1yx0 (Or.inl ⟨?hwx1yx0, ?hyx1yx0⟩) hS ?restx1yx0
        case h1x1yx0 => (simp only [List.getElem?_toArray, List.getElem?_cons_succ, List.getElem?_cons_zero]; rfl)
        case hsx1yx0 | hfx1yx0 | hrx1yx0 => kernel_rfl
        case hQx1yx0 => exact fun _ _ _ h => h
        case hwx1yx0 => rfl
        case hyx1yx0 =>
          intro W hW
          go_simp
          try with_reducible rfl
        simp only [Act.put, List.setIfInBounds_toArray, List.set_cons_succ, List.set_cons_zero]
        refine' wpAnyH_take (i := 2) ?h1x2yx0 ?hsx2yx0 ?hfx2yx0 ?hrx2yx0 ?hQx2yx0 (Or.inl ⟨?hwx2yx0, ?hyx2yx0⟩) hS ?restx2yx0
        case h1x2yx0 => (simp only [List.getElem?_toArray, List.getElem?_cons_succ, List.getElem?_cons_zero]; rfl)
        case hsx2yx0 | hfx2yx0 | hrx2yx0 => kernel_rfl
        case hQx2yx0 => exact fun _ _ _ h => h
        case hwx2yx0 => rfl
        case hyx2yx0 =>
          intro W hW
          go_simp
          try with_reducible rfl
        simp only [Act.put, List.setIfInBounds_toArray, List.set_cons_succ, List.set_cons_zero]
        refine' wpAnyH_take (i := 3) ?h1x3yx0 ?hsx3yx0 ?hfx3yx0 ?hrx3yx0 ?hQx3yx0 (Or.inl ⟨?hwx3yx0, ?hyx3yx0⟩) hS ?restx3yx0
        case h1x3yx0 => (simp only [List.getElem?_toArray, List.getElem?_cons_succ, List.getElem?_cons_zero]; rfl)
        case hsx3yx0 | hfx3yx0 | hrx3yx0 => kernel_rfl
        case hQx3yx0 => exact fun _ _ _ h => h
        case hwx3yx0 => rfl
        case hyx3yx0 =>
          intro W hW
          go_simp
          try with_reducible rfl
        simp only [Act.put, List.setIfInBounds_toArray, List.set_cons_succ, List.set_cons_zero]
        refine' wpAnyH_take (i := 4) ?h1x4yx0 ?hsx4yx0 ?hfx4yx0 ?hrx4yx0 ?hQx4yx0 (Or.inl ⟨?hwx4yx0, ?hyx4yx0⟩) hS ?restx4yx0
        case h1x4yx0 => (simp only [List.getElem?_toArray, List.getElem?_cons_succ, List.getElem?_cons_zero]; rfl)
        case hsx4yx0 | hfx4yx0 | hrx4yx0 => kernel_rfl
        case hQx4yx0 => exact fun _ _ _ h => h
        case hwx4yx0 => rfl
        case hyx4yx0 =>
          intro W hW
          go_simp
          try with_reducible rfl
        simp only [Act.put, List.setIfInBounds_toArray, List.set_cons_succ, List.set_cons_zero]
        refine' wpAnyH_take (i := 5) ?h1x5yx0 ?hsx5yx0 ?hfx5yx0 ?hrx5yx0 ?hQx5yx0 (Or.inl ⟨?hwx5yx0, ?hyx5yx0⟩) hS ?restx5yx0
        case h1x5yx0 => (simp only [List.getElem?_toArray, List.getElem?_cons_succ, List.getElem?_cons_zero]; rfl)
        case hsx5yx0 | hfx5yx0 | hrx5yx0 => kernel_rfl
        case hQx5yx0 => exact fun _ _ _ h => h
        case hwx5yx0 => rfl
        case hyx5yx0 =>
          intro W hW
          go_simp
          try with_reducible rfl
        simp only [Act.put, List.setIfInBounds_toArray, List.set_cons_succ, List.set_cons_zero]
        refine' wpAnyH_take (i := 6) ?h1x6yx0 ?hsx6yx0 ?hfx6yx0 ?hrx6yx0 ?hQx6yx0 (Or.inl ⟨?hwx6yx0, ?hyx6yx0⟩) hS ?restx6yx0
        case h1x6yx0 => (simp only [List.getElem?_toArray, List.getElem?_cons_succ, List.getElem?_cons_zero]; rfl)
        case hsx6yx0 | hfx6yx0 | hrx6yx0 => kernel_rfl
        case hQx6yx0 => exact fun _ _ _ h => h
        case hwx6yx0 => rfl
        case hyx6yx0 =>
          intro W hW
          go_simp
          try with_reducible rfl
        simp only [Act.put, List.setIfInBounds_toArray, List.set_cons_succ, List.set_cons_zero]
        refine' wpAnyH_take (i := 7) ?h1x7yx0 ?hsx7yx0 ?hfx7yx0 ?hrx7yx0 ?hQx7yx0 (Or.inl ⟨?hwx7yx0, ?hyx7yx0⟩) hS ?restx7yx0
        case h1x7yx0 => (simp only [List.getElem?_toArray, List.getElem?_cons_succ, List.getElem?_cons_zero]; rfl)
        case hsx7yx0 | hfx7yx0 | hrx7yx0 => kernel_rfl
        case hQx7yx0 => exact fun _ _ _ h => h
        case hwx7yx0 => rfl
        case hyx7yx0 =>
          intro W hW
          go_simp
          try with_reducible rfl
        simp only [Act.put, List.setIfInBounds_toArray, List.set_cons_succ, List.set_cons_zero]
        refine' wpAnyH_take (i := 8) ?h1x8yx0 ?hsx8yx0 ?hfx8yx0 ?hrx8yx0 ?hQx8yx0 (Or.inl ⟨?hwx8yx0, ?hyx8yx0⟩) hS ?restx8yx0
        case h1x8yx0 => (simp only [List.getElem?_toArray, List.getElem?_cons_succ, List.getElem?_cons_zero]; rfl)
        case hsx8yx0 | hfx8yx0 | hrx8yx0 => kernel_rfl
        case hQx8yx0 => exact fun _ _ _ h => h
        case hwx8yx0 => rfl
        case hyx8yx0 =>
          intro W hW
          go_simp
          try with_reducible rfl
        simp only [Act.put, List.setIfInBounds_toArray, List.set_cons_succ, List.set_cons_zero]
        refine' wpAnyH_take (i := 9) ?h1x9yx0 ?hsx9yx0 ?hfx9yx0 ?hrx9yx0 ?hQx9yx0 (yieldsIf_load_at ?hwx9yx0 26 (.tmp 3) ?hopx9yx0 w.heap.size 0 rfl A _ (fun W hW => range_row hW.2.1) Try.underlying26 rfl ?hix9yx0) hS ?restx9yx0
        case h1x9yx0 => (simp only [List.getElem?_toArray, List.getElem?_cons_succ, List.getElem?_cons_zero]; rfl)
        case hopx9yx0 => rfl
        case hsx9yx0 | hfx9yx0 | hrx9yx0 => kernel_rfl
        case hQx9yx0 => exact fun _ _ _ h => h
        case hwx9yx0 => rfl
        case hix9yx0 => exact IA.out
        simp only [Act.put, List.setIfInBounds_toArray, List.set_cons_succ, List.set_cons_zero]
        refine' wpAnyH_take (i := 10) ?h1x10yx0 ?hsx10yx0 ?hfx10yx0 ?hrx10yx0 ?hQx10yx0 (yieldsIf_load_at ?hwx10yx0 26 (.tmp 4) ?hopx10yx0 (w.heap.size + 1) 0 rfl M _ (fun W hW => range_row hW.2.2.1) Try.underlying26 rfl ?hix10yx0) hS ?restx10yx0
        case h1x10yx0 => (simp only [List.getElem?_toArray, List.getElem?_cons_succ, List.getElem?_cons_zero]; rfl)
        case hopx10yx0 => rfl
        case hsx10yx0 | hfx10yx0 | hrx10yx0 => kernel_rfl
        case hQx10yx0 => exact fun _ _ _ h => h
        case hwx10yx0 => rfl
        case hix10yx0 => exact IM.out
        simp only [Act.put, List.setIfInBounds_toArray, List.set_cons_succ, List.set_cons_zero]
        refine' wpAnyH_take (i := 12) ?h1x12yx0 ?hsx12yx0 ?hfx12yx0 ?hrx12yx0 ?hQx12yx0 (yieldsIf_load_at ?hwx12yx0 32 (.tmp 7) ?hopx12yx0 gx 0 rfl X _ (fun W hW => range_row hW.2.2.2.1) Try.underlying32 rfl ?hix12yx0) hS ?restx12yx0
        case h1x12yx0 => (simp only [List.getElem?_toArray, List.getElem?_cons_succ, List.getElem?_cons_zero]; rfl)
        case hopx12yx0 => rfl
        case hsx12yx0 | hfx12yx0 | hrx12yx0 => kernel_rfl
        case hQx12yx0 => exact fun _ _ _ h => h
        case hwx12yx0 => rfl
        case hix12yx0 => exact Igx.out
        simp only [Act.put, List.setIfInBounds_toArray, List.set_cons_succ, List.set_cons_zero]
        refine' wpAnyH_take (i := 13) ?h1x13yx0 ?hsx13yx0 ?hfx13yx0 ?hrx13yx0 ?hQx13yx0 (yieldsIf_load_at ?hwx13yx0 32 (.tmp 9) ?hopx13yx0 gy 0 rfl Y _ (fun W hW => range_row hW.2.2.2.2) Try.underlying32 rfl ?hix13yx0) hS ?restx13yx0
        case h1x13yx0 => (simp only [List.getElem?_toArray, List.getElem?_cons_succ, List.getElem?_cons_zero]; rfl)
        case hopx13yx0 => rfl
        case hsx13yx0 | hfx13yx0 | hrx13yx0 => kernel_rfl
        case hQx13yx0 => exact fun _ _ _ h => h
        case hwx13yx0 => rfl
        case hix13yx0 => exact Igy.out
        simp only [Act.put, List.setIfInBounds_toArray, List.set_cons_succ, List.set_cons_zero]
        refine wpAnyH_ready (rs := [11]) (by kernel_rfl) (by simp) ?_
        refine' (AllReadyH.cons ?hoc11yx0 (fun K hK => ?stc11yx0) AllReadyH.nil)
        case hoc11yx0 => (simp only [List.getElem?_toArray, List.getElem?_cons_succ, List.getElem?_cons_zero]; rfl)
        go_simp
        refine (SNM.out Wyx0 NR.out MR.out).mono ?_
        rintro e Wyx0x11 ⟨rfl, hb⟩
        have B0 := Lib.hid (B0.out.trans (hb.mono B0.out.size))
        have NR := Lib.hid (NR.out.below hb)
        have MR := Lib.hid (MR.out.below hb)
        have DX := Lib.hid (DX.out.below hb)
        have DY := Lib.hid (DY.out.below hb)
        go_wp2_with fail
        refine hK.out _ _ (⟨hS.1.trans (hb.mono hS.1.size), (hb.block _ (blk_lt hS.2.1)).trans hS.2.1, (hb.block _ (blk_lt hS.2.2.1)).trans hS.2.2.1, (hb.block _ (blk_lt hS.2.2.2.1)).trans hS.2.2.2.1, (hb.block _ (blk_lt hS.2.2.2.2)).trans hS.2.2.2.2⟩) (fun hHeld => ?_)
        clear hK K
        try simp only [Act.put, List.setIfInBounds_toArray, List.set_cons_succ, List.set_cons_zero]
        clear hS
        have hS := hHeld
        clear hHeld
        clear hb
        refine wpAnyH_ready (rs := [14]) (by kernel_rfl) (by simp) ?_
        refine' (AllReadyH.cons ?hoc14yx0x11 (fun K hK => ?stc14yx0x11) AllReadyH.nil)
        case hoc14yx0x11 => (simp only [List.getElem?_toArray, List.getElem?_cons_succ, List.getElem?_cons_zero]; rfl)
        go_simp
        refine (SXY.out trivial _ _ Wyx0x11 DX.out DY.out).mono ?_
        rintro e Wyx0x11x14 ⟨rfl, hb⟩
        have B0 := Lib.hid (B0.out.trans (hb.mono B0.out.size))
        have NR := Lib.hid (NR.out.below hb)
        have MR := Lib.hid (MR.out.below hb)
        have DX := Lib.hid (DX.out.below hb)
        have DY := Lib.hid (DY.out.below hb)
        go_wp2_with fail
        refine hK.out _ _ (⟨hS.1.trans (hb.mono hS.1.size), (hb.block _ (blk_lt hS.2.1)).trans hS.2.1, (hb.block _ (blk_lt hS.2.2.1)).trans hS.2.2.1, (hb.block _ (blk_lt hS.2.2.2.1)).trans hS.2.2.2.1, (hb.block _ (blk_lt hS.2.2.2.2)).trans hS.2.2.2.2⟩) (fun hHeld => ?_)
        clear hK K
        try simp only [Act.put, List.setIfInBounds_toArray, List.set_cons_succ, List.set_cons_zero]
        clear hS
        have hS := hHeld
        clear hHeld
        clear hb
        refine' wpAnyH_take (i := 15) ?h1x15yx0x11x14 ?hsx15yx0x11x14 ?hfx15yx0x11x14 ?hrx15yx0x11x14 ?hQx15yx0x11x14 (Or.inl ⟨?hwx15yx0x11x14, ?hyx15yx0x11x14⟩) hS ?restx15yx0x11x14
        case h1x15yx0x11x14 => (simp only [List.getElem?_toArray, List.getElem?_cons_succ, List.getElem?_cons_zero]; rfl)
        case hsx15yx0x11x14 | hfx15yx0x11x14 | hrx15yx0x11x14 => kernel_rfl
        case hQx15yx0x11x14 => exact fun _ _ _ h => h
        case hwx15yx0x11x14 => rfl
        case hyx15yx0x11x14 =>
          intro W hW
          go_simp
          try with_reducible rfl
        simp only [Act.put, List.setIfInBounds_toArray, List.set_cons_succ, List.set_cons_zero]
        refine' wpAnyH_take (i := 16) ?h1x16yx0x11x14 ?hsx16yx0x11x14 ?hfx16yx0x11x14 ?hrx16yx0x11x14 ?hQx16yx0x11x14 (Or.inl ⟨?hwx16yx0x11x14, ?hyx16yx0x11x14⟩) hS ?restx16yx0x11x14
        case h1x16yx0x11x14 => (simp only [List.getElem?_toArray, List.getElem?_cons_succ, List.getElem?_cons_zero]; rfl)
        case hsx16yx0x11x14 | hfx16yx0x11x14 | hrx16yx0x11x14 => kernel_rfl
        case hQx16yx0x11x14 => exact fun _ _ _ h => h
        case hwx16yx0x11x14 => rfl
        case hyx16yx0x11x14 =>
          intro W hW
          go_simp
          try with_reducible rfl
        simp only [Act.put, List.setIfInBounds_toArray, List.set_cons_succ, List.set_cons_zero]
        refine' wpAnyH_take (i := 17) ?h1x17yx0x11x14 ?hsx17yx0x11x14 ?hfx17yx0x11x14 ?hrx17yx0x11x14 ?hQx17yx0x11x14 (Or.inl ⟨?hwx17yx0x11x14, ?hyx17yx0x11x14⟩) hS ?restx17yx0x11x14
        case h1x17yx0x11x14 => (simp only [List.getElem?_toArray, List.getElem?_cons_succ, List.getElem?_cons_zero]; rfl)
        case hsx17yx0x11x14 | hfx17yx0x11x14 | hrx17yx0x11x14 => kernel_rfl
        case hQx17yx0x11x14 => exact fun _ _ _ h => h
        case hwx17yx0x11x14 => rfl
        case hyx17yx0x11x14 =>
          intro W hW
          go_simp
          try with_reducible rfl
        simp only [Act.put, List.setIfInBounds_toArray, List.set_cons_succ, List.set_cons_zero]
        refine' wpAnyH_take (i := 18) ?h1x18yx0x11x14 ?hsx18yx0x11x14 ?hfx18yx0x11x14 ?hrx18yx0x11x14 ?hQx18yx0x11x14 (Or.inl ⟨?hwx18yx0x11x14, ?hyx18yx0x11x14⟩) hS ?restx18yx0x11x14
        case h1x18yx0x11x14 => (simp only [List.getElem?_toArray, List.getElem?_cons_succ, List.getElem?_cons_zero]; rfl)
        case hsx18yx0x11x14 | hfx18yx0x11x14 | hrx18yx0x11x14 => kernel_rfl
        case hQx18yx0x11x14 => exact fun _ _ _ h => h
        case hwx18yx0x11x14 => rfl
        case hyx18yx0x11x14 =>
          intro W hW
          go_simp
          try with_reducible rfl
        simp only [Act.put, List.setIfInBounds_toArray, List.set_cons_succ, List.set_cons_zero]
        refine wpAnyH_done (by kernel_rfl) ?_ _
        go_wp2_with fail
        go_ret
        exact ⟨rfl, B0.out⟩
set_option maxRecDepth 100000 in
set_option maxHeartbeats 32000000 in
theorem bytes_m110xx (A M : Array Value) (n m : NV) (xs : List Int) (v : Value) (w : World) (hn : ND w (.agg A) n) (hm : ND w (.agg M) m) (hs : Sees w v xs) (fn : ∀ p ∈ n.qs, 0 ≤ p.1 ∧ p.1 ≤ 4294967295) (fm : ∀ p ∈ m.qs, 0 ≤ p.1 ∧ p.1 ≤ 4294967295) (hgn : greatB n = false) (hgm : greatB m = false) (hl : xs.length ≤ 2000) (hok : okN n = true) (hrd : rightD (asN n) = true) (his : isN xs = false) : Calls Try.prog 3 #[.agg A, .agg M, v] w (AliveP w) := by
  obtain ⟨xv, cv, rfl, h63⟩ := hs.form
  have IA := Lib.hid hn.info
  have IM := Lib.hid hm.info
  have AL := Lib.hid alive8
  obtain ⟨W1, hW1⟩ : ∃ W1, W1 = (w.alloc (.cells A 26)).alloc (.cells M 26) := ⟨_, rfl⟩
  have b0 : Below w.heap.size w (w.alloc (.cells A 26)) := (Below.refl _ _).alloc (Nat.le_refl _) _
  have b1 : Below w.heap.size w W1 := by rw [hW1]; exact b0.alloc (by simp) _
  have GA : Hid (W1.heap[w.heap.size]? = some (.cells A 26 (0, 0))) := by show _ = _; rw [hW1, Below.heap_alloc _ _ _ (by simp)]; exact heap_alloc_new w _
  have GM : Hid (W1.heap[w.heap.size + 1]? = some (.cells M 26 (0, 0))) := by
    show _ = _
    rw [hW1]
    have := heap_alloc_new (w.alloc (.cells A 26)) (.cells M 26)
    simpa using this
  have NR := Lib.hid (hn.below b1)
  have MR := Lib.hid (hm.below b1)
  have SB := Lib.hid (hs.below b1)
  have B0 := Lib.hid b1
  have HW1 := Lib.hid hW1
  have HBY := Lib.hid hs.1
  obtain ⟨kb, hkm⟩ : ∃ kb, okN m = kb := ⟨_, rfl⟩
  have GTn : Hid (∀ v W, ND W v n → Calls Try.prog 7 #[v] W fun e w' => e = .returned (.bool false) ∧ Below W.heap.size W w') := fun v W h => by have := great v n W h; rw [hgn] at this; exact this
  have GTm : Hid (∀ v W, ND W v m → Calls Try.prog 7 #[v] W fun e w' => e = .returned (.bool false) ∧ Below W.heap.size W w') := fun v W h => by have := great v m W h; rw [hgm] at this; exact this
  have hll : (xs.length : Int) ≤ 2000 := by omega
  have n30 : n.ks.length ≤ 100 := by unfold greatB at hgn; simp only [Bool.or_eq_false_iff, decide_eq_false_iff_not] at hgn; omega
  have m30 : m.ks.length ≤ 100 := by unfold greatB at hgm; simp only [Bool.or_eq_false_iff, decide_eq_false_iff_not] at hgm; omega
  have np : n.okP := by obtain ⟨_, _, _, _, h1, _, _, h4, h5⟩ := hn; exact ⟨h1.1, h4, h5⟩
  have hrb : rightB n.leaf n.ks n.vs.length n.qs.length = true := by rw [right_eq np, hok, hrd]; rfl
  have xl : (asN n).l.length ≤ 100 := by
    unfold asN
    by_cases h : okN n = true
    · rw [if_pos h, parts_len]; exact n30
    · rw [if_neg h]; exact Nat.zero_le _
  have NX := Lib.hid (is_eq hs.1)
  have hisd : isD xs = false := by rw [NX.out.1, his]
  have ACn : Hid (∀ W, ND W (.agg A) n → Calls Try.prog 9 #[.agg A] W fun e w' => ∃ O, e = .returned (.tuple #[.agg O, .bool true]) ∧ DM w' (.agg O) (asN n) ∧ Below W.heap.size W w') := fun W h => by have := asD A n W h n30 fn; unfold AsP at this; rw [hok] at this; exact this
  have ACm : Hid (∀ W, ND W (.agg M) m → Calls Try.prog 9 #[.agg M] W fun e w' => ∃ O, e = .returned (.tuple #[.agg O, .bool kb]) ∧ DM w' (.agg O) (asN m) ∧ Below W.heap.size W w') := fun W h => by have := asD M m W h m30 fm; unfold AsP at this; rw [hkm] at this; exact this
  have WR : Hid (∀ v W, ND W v n → Calls Try.prog 10 #[v] W fun e w' => ∃ q, e = .returned (.tuple #[q, .int .i64 0]) ∧ Sees w' q (nB n) ∧ Below W.heap.size W w') := fun v W h => by
    have := write v n W h fn
    unfold WriteP wrE wrV at this
    rw [hrb] at this
    exact this
  have RT : Hid (∀ v W, ND W v n → Calls Try.prog 12 #[v] W fun e w' => e = .returned (.bool true) ∧ Below W.heap.size W w') := fun v W h => by have := rightN v n W h; rw [hrb] at this; exact this
  have RC : Hid (∀ O W, DM W (.agg O) (asN n) → Calls Try.prog 11 #[.agg O] W fun e w' => e = .returned (.bool true) ∧ Below W.heap.size W w') := fun O W h => by have := rightDC O (asN n) W h xl; rw [hrd] at this; exact this
  have WD : Hid (∀ O W, DM W (.agg O) (asN n) → Calls Try.prog 13 #[.agg O] W fun e w' => ∃ q, e = .returned (.tuple #[q, .int .i64 0]) ∧ Sees w' q (nB n) ∧ Below W.heap.size W w') := fun O W h => by
    have := writeD O (asN n) W h xl
    unfold WrP at this
    rw [hrd, wrD_asN hok] at this
    exact this
  have CP := Lib.hid (fun v W (h : Sees W v xs) => oc.copy v xs (by omega) W h)
  obtain ⟨gt, hgt⟩ : ∃ gt, gt = nz := ⟨_, rfl⟩
  obtain ⟨zd, hzd⟩ : ∃ zd, zd = nzD := ⟨_, rfl⟩
  have RF : Hid (∀ v W, Sees W v xs → Calls Try.prog 15 #[v] W fun e w' => ∃ U, e = .returned (.tuple #[.agg U, .int .i64 3]) ∧ ND w' (.agg U) gt ∧ freshN W.heap.size (.agg U) ∧ Below W.heap.size W w') := fun v W h => by
    have := readF v xs W h (by omega)
    unfold ReadPF at this
    rw [his] at this
    refine this.mono fun e w' ⟨u, q1, q2, q3, q4⟩ => ?_
    obtain ⟨K, V, Q, rfl, _⟩ := id q2
    exact ⟨_, q1, by rw [hgt]; exact q2, q3, q4⟩
  have RDC : Hid (∀ v W, Sees W v xs → Calls Try.prog 16 #[v] W fun e w' => ∃ O, e = .returned (.tuple #[.agg O, .int .i64 3]) ∧ DM w' (.agg O) zd ∧ Below W.heap.size W w') := fun v W h => by
    have := readD v xs W h
    unfold ReadDP at this
    rw [hisd] at this
    rw [hzd]
    exact this
  have SLC : Hid (∀ U O W, ND W (.agg U) gt → ND W (.agg O) nz → Calls Try.prog 18 #[.agg U, .agg O] W fun e w' => e = .returned (.bool true) ∧ Below W.heap.size W w') := fun U O W h1 h2 => by
    rw [hgt] at h1
    have := same (.agg U) (.agg O) nz nz W h1 h2
    rw [show sameB nz nz = true by simp [sameB]] at this
    exact this
  obtain ⟨sb, hsb⟩ : ∃ sb, sb = sameB n m := ⟨_, rfl⟩
  have SNM : Hid (∀ W, ND W (.agg A) n → ND W (.agg M) m → Calls Try.prog 18 #[.agg A, .agg M] W fun e w' => e = .returned (.bool sb) ∧ Below W.heap.size W w') := fun W h1 h2 => by rw [hsb]; exact same _ _ n m W h1 h2
  have SXY : Hid (kb = true → ∀ X Y W, DM W (.agg X) (asN n) → DM W (.agg Y) (asN m) → Calls Try.prog 19 #[.agg X, .agg Y] W fun e w' => e = .returned (.bool sb) ∧ Below W.heap.size W w') := fun hk X Y W h1 h2 => by rw [hsb, same_eq hok (hkm.trans hk) fn fm]; exact sameDC X Y (asN n) (asN m) W h1 h2 xl
  have hz26 := z26
  have hz32 := z32
  have b26z := b26
  obtain ⟨Zn, hZn⟩ : ∃ Zn : Array Value, Zn = #[.bool false, .slice none 0 0, .slice none 0 0, .slice none 0 0] := ⟨_, rfl⟩
  obtain ⟨Zd, hZd⟩ : ∃ Zd : Array Value, Zd = #[.bool false, .slice none 0 0] := ⟨_, rfl⟩
  rw [← hZn] at hz26 b26z
  rw [← hZd] at hz32
  have BZ := Lib.hid b26z
  have NZ : Hid (∀ W, ND W (.agg Zn) nz) := fun W => by rw [hZn]; exact nd_nz W
  have ZnN : Hid (Zn.size = 4) := by show _ = _; rw [hZn]; rfl
  have ZdN : Hid (Zd.size = 2) := by show _ = _; rw [hZd]; rfl
  clear hW1 b0 b1 hn hm hs fn fm hgn hgm hl hok hrd his hkm n30 m30 np hrb xl hisd b26z hZn hZd hgt hzd NX hsb
  generalize asN n = xn at *
  generalize asN m = ym at *
  generalize nB n = bn at *
  go_enter Try.func3, Try.ntmps3
  go_upto_region 1 with (fail)
  rw [← HW1.out]
  go_wp2_with (refine wpList_load_row rfl 26 (.tmp 3) rfl w.heap.size rfl 26 A (0, 0) _ GA.out Try.underlying26 rfl IA.out ?_)
  refine (GTn.out _ _ NR.out).mono ?_
  rintro e w1 ⟨rfl, hb⟩
  have B0 := Lib.hid (B0.out.trans (hb.mono B0.out.size))
  have GA := Lib.hid ((hb.block _ (blk_lt GA.out)).trans GA.out)
  have GM := Lib.hid ((hb.block _ (blk_lt GM.out)).trans GM.out)
  have NR := Lib.hid (NR.out.below hb)
  have MR := Lib.hid (MR.out.below hb)
  have SB := Lib.hid (SB.out.below hb)
  clear hb
  go_wp2_with (refine wpList_load_met rfl 26 (.tmp 4) rfl (w.heap.size + 1) rfl 26 M (0, 0) _ GM.out Try.underlying26 ⟨_, rfl⟩ IM.out ?_)
  refine (GTm.out _ _ MR.out).mono ?_
  rintro e w2 ⟨rfl, hb⟩
  have B0 := Lib.hid (B0.out.trans (hb.mono B0.out.size))
  have GA := Lib.hid ((hb.block _ (blk_lt GA.out)).trans GA.out)
  have GM := Lib.hid ((hb.block _ (blk_lt GM.out)).trans GM.out)
  have NR := Lib.hid (NR.out.below hb)
  have MR := Lib.hid (MR.out.below hb)
  have SB := Lib.hid (SB.out.below hb)
  clear hb
  go_upto_region 3 with (fail)
  go_wp2_with (refine wpList_load_row rfl 26 (.tmp 3) rfl w.heap.size rfl 26 A (0, 0) _ GA.out Try.underlying26 rfl IA.out ?_)
  refine (ACn.out _ NR.out).mono ?_
  rintro e w3 ⟨X, rfl, hd, hb⟩
  have B0 := Lib.hid (B0.out.trans (hb.mono B0.out.size))
  have GA := Lib.hid ((hb.block _ (blk_lt GA.out)).trans GA.out)
  have GM := Lib.hid ((hb.block _ (blk_lt GM.out)).trans GM.out)
  have NR := Lib.hid (NR.out.below hb)
  have MR := Lib.hid (MR.out.below hb)
  have SB := Lib.hid (SB.out.below hb)
  have DX := Lib.hid hd
  clear hd
  clear hb
  have Sgx : Hid (Zd.size = X.size) := by show _ = _; rw [ZdN.out, DX.out.two]
  have Igx := Lib.hid DX.out.info
  have Ogx := Lib.hid DX.out.one
  have GN := Lib.hid (heap_alloc_new w3 (.cells Zd 32))
  have RW := Lib.hid (alloc_setRowT w3 Zd X 32 _ rfl)
  have hb : Below w3.heap.size w3 (w3.alloc (.cells X 32)) := (Below.refl _ _).alloc (Nat.le_refl _) _
  have GX := Lib.hid (heap_alloc_new w3 (.cells X 32))
  have B0 := Lib.hid (B0.out.trans (hb.mono B0.out.size))
  have GA := Lib.hid ((hb.block _ (blk_lt GA.out)).trans GA.out)
  have GM := Lib.hid ((hb.block _ (blk_lt GM.out)).trans GM.out)
  have NR := Lib.hid (NR.out.below hb)
  have MR := Lib.hid (MR.out.below hb)
  have SB := Lib.hid (SB.out.below hb)
  have DX := Lib.hid (DX.out.below hb)
  clear hb
  go_upto_region 4 with (refine wpList_store_row rfl 32 (.tmp 7) (.tmp 37) rfl w3.heap.size X rfl rfl 32 Zd GN.out Igx.out Sgx.out Ogx.out ?_)
  rw [RW.out]
  try simp only [Act.put]
  clear GN RW
  generalize w3.alloc (.cells X 32) = w4 at *
  generalize w3.heap.size = gx at *
  go_wp2_with (refine wpList_load_row rfl 26 (.tmp 4) rfl (w.heap.size + 1) rfl 26 M (0, 0) _ GM.out Try.underlying26 rfl IM.out ?_)
  refine (ACm.out _ MR.out).mono ?_
  rintro e w5 ⟨Y, rfl, hd, hb⟩
  have B0 := Lib.hid (B0.out.trans (hb.mono B0.out.size))
  have GA := Lib.hid ((hb.block _ (blk_lt GA.out)).trans GA.out)
  have GM := Lib.hid ((hb.block _ (blk_lt GM.out)).trans GM.out)
  have NR := Lib.hid (NR.out.below hb)
  have MR := Lib.hid (MR.out.below hb)
  have SB := Lib.hid (SB.out.below hb)
  have DX := Lib.hid (DX.out.below hb)
  have GX := Lib.hid ((hb.block _ (blk_lt GX.out)).trans GX.out)
  have DY := Lib.hid hd
  clear hd
  clear hb
  have Sgy : Hid (Zd.size = Y.size) := by show _ = _; rw [ZdN.out, DY.out.two]
  have Igy := Lib.hid DY.out.info
  have Ogy := Lib.hid DY.out.one
  have GN := Lib.hid (heap_alloc_new w5 (.cells Zd 32))
  have RW := Lib.hid (alloc_setRowT w5 Zd Y 32 _ rfl)
  have hb : Below w5.heap.size w5 (w5.alloc (.cells Y 32)) := (Below.refl _ _).alloc (Nat.le_refl _) _
  have GY := Lib.hid (heap_alloc_new w5 (.cells Y 32))
  have B0 := Lib.hid (B0.out.trans (hb.mono B0.out.size))
  have GA := Lib.hid ((hb.block _ (blk_lt GA.out)).trans GA.out)
  have GM := Lib.hid ((hb.block _ (blk_lt GM.out)).trans GM.out)
  have NR := Lib.hid (NR.out.below hb)
  have MR := Lib.hid (MR.out.below hb)
  have SB := Lib.hid (SB.out.below hb)
  have DX := Lib.hid (DX.out.below hb)
  have GX := Lib.hid ((hb.block _ (blk_lt GX.out)).trans GX.out)
  have DY := Lib.hid (DY.out.below hb)
  clear hb
  go_upto_region 5 with (refine wpList_store_row rfl 32 (.tmp 9) (.tmp 42) rfl w5.heap.size Y rfl rfl 32 Zd GN.out Igy.out Sgy.out Ogy.out ?_)
  rw [RW.out]
  try simp only [Act.put]
  clear GN RW
  generalize w5.alloc (.cells Y 32) = w6 at *
  generalize w5.heap.size = gy at *
  go_wp2_with (refine wpList_load_row rfl 26 (.tmp 3) rfl w.heap.size rfl 26 A (0, 0) _ GA.out Try.underlying26 rfl IA.out ?_)
  refine (WR.out _ _ NR.out).mono ?_
  rintro e w7 ⟨q, rfl, hq, hb⟩
  have B0 := Lib.hid (B0.out.trans (hb.mono B0.out.size))
  have GA := Lib.hid ((hb.block _ (blk_lt GA.out)).trans GA.out)
  have GM := Lib.hid ((hb.block _ (blk_lt GM.out)).trans GM.out)
  have NR := Lib.hid (NR.out.below hb)
  have MR := Lib.hid (MR.out.below hb)
  have SB := Lib.hid (SB.out.below hb)
  have DX := Lib.hid (DX.out.below hb)
  have GX := Lib.hid ((hb.block _ (blk_lt GX.out)).trans GX.out)
  have DY := Lib.hid (DY.out.below hb)
  have GY := Lib.hid ((hb.block _ (blk_lt GY.out)).trans GY.out)
  have SW := Lib.hid hq
  obtain ⟨qx, qc, rfl, qm⟩ := hq.form
  clear hq
  clear hb
  go_upto_region 6 with (fail)
  go_wp2_with (refine wpList_load_met rfl 32 (.tmp 7) rfl gx rfl 32 X (0, 0) _ GX.out Try.underlying32 ⟨_, rfl⟩ Igx.out ?_)
  refine (RC.out _ _ DX.out).mono ?_
  rintro e w8 ⟨rfl, hb⟩
  have B0 := Lib.hid (B0.out.trans (hb.mono B0.out.size))
  have GA := Lib.hid ((hb.block _ (blk_lt GA.out)).trans GA.out)
  have GM := Lib.hid ((hb.block _ (blk_lt GM.out)).trans GM.out)
  have NR := Lib.hid (NR.out.below hb)
  have MR := Lib.hid (MR.out.below hb)
  have SB := Lib.hid (SB.out.below hb)
  have DX := Lib.hid (DX.out.below hb)
  have GX := Lib.hid ((hb.block _ (blk_lt GX.out)).trans GX.out)
  have DY := Lib.hid (DY.out.below hb)
  have GY := Lib.hid ((hb.block _ (blk_lt GY.out)).trans GY.out)
  have SW := Lib.hid (SW.out.below hb)
  clear hb
  go_upto_region 7 with (fail)
  go_wp2_with (refine wpList_load_row rfl 26 (.tmp 3) rfl w.heap.size rfl 26 A (0, 0) _ GA.out Try.underlying26 rfl IA.out ?_)
  refine (RT.out _ _ NR.out).mono ?_
  rintro e w9 ⟨rfl, hb⟩
  have B0 := Lib.hid (B0.out.trans (hb.mono B0.out.size))
  have GA := Lib.hid ((hb.block _ (blk_lt GA.out)).trans GA.out)
  have GM := Lib.hid ((hb.block _ (blk_lt GM.out)).trans GM.out)
  have NR := Lib.hid (NR.out.below hb)
  have MR := Lib.hid (MR.out.below hb)
  have SB := Lib.hid (SB.out.below hb)
  have DX := Lib.hid (DX.out.below hb)
  have GX := Lib.hid ((hb.block _ (blk_lt GX.out)).trans GX.out)
  have DY := Lib.hid (DY.out.below hb)
  have GY := Lib.hid ((hb.block _ (blk_lt GY.out)).trans GY.out)
  have SW := Lib.hid (SW.out.below hb)
  clear hb
  go_upto_region 9 with (fail)
  go_wp2_with (refine wpList_load_row rfl 32 (.tmp 7) rfl gx rfl 32 X (0, 0) _ GX.out Try.underlying32 rfl Igx.out ?_)
  refine (WD.out _ _ DX.out).mono ?_
  rintro e wa ⟨q2, rfl, hq, hb⟩
  have B0 := Lib.hid (B0.out.trans (hb.mono B0.out.size))
  have GA := Lib.hid ((hb.block _ (blk_lt GA.out)).trans GA.out)
  have GM := Lib.hid ((hb.block _ (blk_lt GM.out)).trans GM.out)
  have NR := Lib.hid (NR.out.below hb)
  have MR := Lib.hid (MR.out.below hb)
  have SB := Lib.hid (SB.out.below hb)
  have DX := Lib.hid (DX.out.below hb)
  have GX := Lib.hid ((hb.block _ (blk_lt GX.out)).trans GX.out)
  have DY := Lib.hid (DY.out.below hb)
  have GY := Lib.hid ((hb.block _ (blk_lt GY.out)).trans GY.out)
  have SW := Lib.hid (SW.out.below hb)
  have SWT := Lib.hid hq
  obtain ⟨rx, rc2, rfl, rm⟩ := hq.form
  clear hq
  clear hb
  have s1 := SW.out.str
  have s2 := SWT.out.str
  have e1 : ((strOfNums bn).toList == (strOfNums bn).toList) = true := beq_self_eq_true _
  have e2 : ((strOfNums bn).toList != (strOfNums bn).toList) = false := by simp
  go_upto_region 12 with (fail)
  clear s1 s2 e1 e2
  have NRa := NR
  have MRa := MR
  have SBa := SB
  have DXa := DX
  have DYa := DY
  have GXa := GX
  have GYa := GY
  have GAa := GA
  have GMa := GM
  have B0a := B0
  go_wp2_with fail
  refine (CP.out _ _ SB.out).mono ?_
  rintro e wb ⟨xo, co, rfl, hown, hb⟩
  have B0 := Lib.hid (B0.out.trans (hb.mono B0.out.size))
  have GA := Lib.hid ((hb.block _ (blk_lt GA.out)).trans GA.out)
  have GM := Lib.hid ((hb.block _ (blk_lt GM.out)).trans GM.out)
  have NR := Lib.hid (NR.out.below hb)
  have MR := Lib.hid (MR.out.below hb)
  have SB := Lib.hid (SB.out.below hb)
  have DX := Lib.hid (DX.out.below hb)
  have GX := Lib.hid ((hb.block _ (blk_lt GX.out)).trans GX.out)
  have DY := Lib.hid (DY.out.below hb)
  have GY := Lib.hid ((hb.block _ (blk_lt GY.out)).trans GY.out)
  have SW := Lib.hid (SW.out.below hb)
  have SWT := Lib.hid (SWT.out.below hb)
  have HBC := Lib.hid hb
  have OWN := Lib.hid hown
  clear hown
  clear hb
  go_upto_region 13 with (fail)
  go_wp2_with fail
  have OWNb := OWN
  refine (RF.out _ _ OWN.out.sees).mono ?_
  rintro e wc ⟨U, rfl, hd, hfr, hb⟩
  have B0 := Lib.hid (B0.out.trans (hb.mono B0.out.size))
  have GA := Lib.hid ((hb.block _ (blk_lt GA.out)).trans GA.out)
  have GM := Lib.hid ((hb.block _ (blk_lt GM.out)).trans GM.out)
  have NR := Lib.hid (NR.out.below hb)
  have MR := Lib.hid (MR.out.below hb)
  have SB := Lib.hid (SB.out.below hb)
  have DX := Lib.hid (DX.out.below hb)
  have GX := Lib.hid ((hb.block _ (blk_lt GX.out)).trans GX.out)
  have DY := Lib.hid (DY.out.below hb)
  have GY := Lib.hid ((hb.block _ (blk_lt GY.out)).trans GY.out)
  have SW := Lib.hid (SW.out.below hb)
  have SWT := Lib.hid (SWT.out.below hb)
  have HBC := Lib.hid (HBC.out.trans (hb.mono HBC.out.size))
  have OWN := Lib.hid (OWN.out.below hb)
  have NG := Lib.hid hd
  have FG := Lib.hid hfr
  have OLT : Hid (∀ k, (Value.slice xo xs.length co).ownBlock = some k → k < wb.heap.size) := fun k e => (OWNb.out.2.lt k e).2
  have GUle := Lib.hid hb.size
  clear hd hfr
  clear hb
  have Sgu : Hid (Zn.size = U.size) := by show _ = _; rw [ZnN.out, NG.out.four]
  have Igu := Lib.hid NG.out.info
  have Ogu := Lib.hid NG.out.one
  have GN := Lib.hid (heap_alloc_new wc (.cells Zn 26))
  have RW := Lib.hid (alloc_setRowT wc Zn U 26 _ rfl)
  have hb : Below wc.heap.size wc (wc.alloc (.cells U 26)) := (Below.refl _ _).alloc (Nat.le_refl _) _
  have GU := Lib.hid (heap_alloc_new wc (.cells U 26))
  have B0 := Lib.hid (B0.out.trans (hb.mono B0.out.size))
  have GA := Lib.hid ((hb.block _ (blk_lt GA.out)).trans GA.out)
  have GM := Lib.hid ((hb.block _ (blk_lt GM.out)).trans GM.out)
  have NR := Lib.hid (NR.out.below hb)
  have MR := Lib.hid (MR.out.below hb)
  have SB := Lib.hid (SB.out.below hb)
  have DX := Lib.hid (DX.out.below hb)
  have GX := Lib.hid ((hb.block _ (blk_lt GX.out)).trans GX.out)
  have DY := Lib.hid (DY.out.below hb)
  have GY := Lib.hid ((hb.block _ (blk_lt GY.out)).trans GY.out)
  have SW := Lib.hid (SW.out.below hb)
  have SWT := Lib.hid (SWT.out.below hb)
  have HBC := Lib.hid (HBC.out.trans (hb.mono HBC.out.size))
  have OWN := Lib.hid (OWN.out.below hb)
  have NG := Lib.hid (NG.out.below hb)
  clear hb
  go_upto_region 14 with (refine wpList_store_row rfl 26 (.tmp 17) (.tmp 99) rfl wc.heap.size U rfl rfl 26 Zn GN.out Igu.out Sgu.out Ogu.out ?_)
  rw [RW.out]
  try simp only [Act.put]
  clear GN RW
  generalize wc.alloc (.cells U 26) = wd at *
  generalize wc.heap.size = gu at *
  go_wp2_with fail
  have GUlt : Hid (wb.heap.size ≤ gu) := GUle.out
  have RGU : Hid (∀ k, (Value.slice xo xs.length co).ownBlock = some k → k ≠ gu) := fun k e => by have := OLT.out k e; have := GUlt.out; omega
  refine (show Code.wp _ _ _ _ _ from ?_)
  go_loopw [19] (fun v19 wr => ∃ (i : Nat) (zs : List Int), i ≤ xs.length ∧ v19 = .int .i64 (i : Int) ∧ zs.length = xs.length ∧ Own wr wa.heap.size (.slice xo xs.length co) zs ∧ wd.grownBy wr (Value.slice xo xs.length co).ownBlock ∧ Below wa.heap.size wa wr) (fun v19 _ => xs.length - (intOf v19).toNat)
  case atStart => exact ⟨0, xs, by omega, rfl, rfl, OWN.out, oc.grownBy_refl _ _, HBC.out⟩
  case round =>
    obtain ⟨i, zs, hi, rfl, hzl, hown, hgr, hbc⟩ := hrel
    by_cases hlt : i < xs.length
    · have hii : (i : Int) < (xs.length : Int) := by omega
      obtain ⟨g, rfl, hag, hcell, hfz, hset⟩ := own_set hown (show i < zs.length by omega)
      have hby := hown.1.nth i
      have hx8 := oc.xor8_zero (nth zs i) 255 hby (by decide)
      have hset := hset _ hx8.2
      have HSET := Lib.hid hset
      have HGR := Lib.hid (grown_trans hgr hset.2)
      have HBC2 := Lib.hid (hbc.setCell (p := ⟨g, i, none⟩) hag (.int .u8 (bits .xor .u8 (nth zs i) 255)))
      have k0 := hby.1
      have k1 := hby.2
      have HZL := Lib.hid hzl
      clear hown hgr hbc hset hx8 hby hzl
      go_wp2_with fail
      go_roundw
      case rel => exact ⟨i + 1, zs.set i (bits .xor .u8 (nth zs i) 255), by omega, by go_num, by rw [List.length_set]; exact HZL.out, HSET.out.1, HGR.out, HBC2.out⟩
      case measure => simp [intOf]; omega
    · have hge : ¬ (i : Int) < (xs.length : Int) := by omega
      have HB2 := Lib.hid hbc
      have GU := Lib.hid ((hgr.block _ (blk_lt GU.out) (fun e => RGU.out gu e.symm rfl)).trans GU.out)
      have NG := Lib.hid (NG.out.grown FG.out hgr OLT.out)
      clear hown hgr hbc hzl
      have NR := Lib.hid (NRa.out.below HB2.out)
      have MR := Lib.hid (MRa.out.below HB2.out)
      have SB := Lib.hid (SBa.out.below HB2.out)
      have DX := Lib.hid (DXa.out.below HB2.out)
      have DY := Lib.hid (DYa.out.below HB2.out)
      have GX := Lib.hid ((HB2.out.block _ (blk_lt GXa.out)).trans GXa.out)
      have GY := Lib.hid ((HB2.out.block _ (blk_lt GYa.out)).trans GYa.out)
      have GA := Lib.hid ((HB2.out.block _ (blk_lt GAa.out)).trans GAa.out)
      have GM := Lib.hid ((HB2.out.block _ (blk_lt GMa.out)).trans GMa.out)
      have B0 := Lib.hid (B0a.out.trans (HB2.out.mono B0a.out.size))
      clear NRa MRa SBa DXa DYa GXa GYa GAa GMa B0a
      go_upto_region 18 with (fail)
      go_wp2_with fail
      refine (RDC.out _ _ SB.out).mono ?_
      rintro e we ⟨O, rfl, hd, hb⟩
      have B0 := Lib.hid (B0.out.trans (hb.mono B0.out.size))
      have GA := Lib.hid ((hb.block _ (blk_lt GA.out)).trans GA.out)
      have GM := Lib.hid ((hb.block _ (blk_lt GM.out)).trans GM.out)
      have NR := Lib.hid (NR.out.below hb)
      have MR := Lib.hid (MR.out.below hb)
      have SB := Lib.hid (SB.out.below hb)
      have DX := Lib.hid (DX.out.below hb)
      have GX := Lib.hid ((hb.block _ (blk_lt GX.out)).trans GX.out)
      have DY := Lib.hid (DY.out.below hb)
      have GY := Lib.hid ((hb.block _ (blk_lt GY.out)).trans GY.out)
      have NG := Lib.hid (NG.out.below hb)
      have GU := Lib.hid ((hb.block _ (blk_lt GU.out)).trans GU.out)
      have DZ := Lib.hid hd
      clear hd
      clear hb
      have Sgz : Hid (Zd.size = O.size) := by show _ = _; rw [ZdN.out, DZ.out.two]
      have Igz := Lib.hid DZ.out.info
      have Ogz := Lib.hid DZ.out.one
      have GN := Lib.hid (heap_alloc_new we (.cells Zd 32))
      have RW := Lib.hid (alloc_setRowT we Zd O 32 _ rfl)
      have hb : Below we.heap.size we (we.alloc (.cells O 32)) := (Below.refl _ _).alloc (Nat.le_refl _) _
      have GZ := Lib.hid (heap_alloc_new we (.cells O 32))
      have B0 := Lib.hid (B0.out.trans (hb.mono B0.out.size))
      have GA := Lib.hid ((hb.block _ (blk_lt GA.out)).trans GA.out)
      have GM := Lib.hid ((hb.block _ (blk_lt GM.out)).trans GM.out)
      have NR := Lib.hid (NR.out.below hb)
      have MR := Lib.hid (MR.out.below hb)
      have SB := Lib.hid (SB.out.below hb)
      have DX := Lib.hid (DX.out.below hb)
      have GX := Lib.hid ((hb.block _ (blk_lt GX.out)).trans GX.out)
      have DY := Lib.hid (DY.out.below hb)
      have GY := Lib.hid ((hb.block _ (blk_lt GY.out)).trans GY.out)
      have NG := Lib.hid (NG.out.below hb)
      have GU := Lib.hid ((hb.block _ (blk_lt GU.out)).trans GU.out)
      have DZ := Lib.hid (DZ.out.below hb)
      clear hb
      go_upto_region 19 with (refine wpList_store_row rfl 32 (.tmp 20) (.tmp 118) rfl we.heap.size O rfl rfl 32 Zd GN.out Igz.out Sgz.out Ogz.out ?_)
      rw [RW.out]
      try simp only [Act.put]
      clear GN RW
      generalize we.alloc (.cells O 32) = wf at *
      generalize we.heap.size = gz at *
      go_wp2_with (first | (refine wpList_load_met rfl 26 (.tmp 17) rfl gu rfl 26 U (0, 0) _ GU.out Try.underlying26 ⟨_, rfl⟩ Igu.out ?_) | (refine wpList_blank_met rfl 26 rfl (BZ.out _) ?_))
      refine (SLC.out _ _ _ NG.out (NZ.out _)).mono ?_
      rintro e wg ⟨rfl, hb⟩
      have B0 := Lib.hid (B0.out.trans (hb.mono B0.out.size))
      have GA := Lib.hid ((hb.block _ (blk_lt GA.out)).trans GA.out)
      have GM := Lib.hid ((hb.block _ (blk_lt GM.out)).trans GM.out)
      have NR := Lib.hid (NR.out.below hb)
      have MR := Lib.hid (MR.out.below hb)
      have SB := Lib.hid (SB.out.below hb)
      have DX := Lib.hid (DX.out.below hb)
      have GX := Lib.hid ((hb.block _ (blk_lt GX.out)).trans GX.out)
      have DY := Lib.hid (DY.out.below hb)
      have GY := Lib.hid ((hb.block _ (blk_lt GY.out)).trans GY.out)
      have NG := Lib.hid (NG.out.below hb)
      have GU := Lib.hid ((hb.block _ (blk_lt GU.out)).trans GU.out)
      have DZ := Lib.hid (DZ.out.below hb)
      have GZ := Lib.hid ((hb.block _ (blk_lt GZ.out)).trans GZ.out)
      clear hb
      go_upto_region 21 with (fail)
      cases kb with
      | false =>
        refine wp_region_held_drew (S := fun W => Below wg.heap.size wg W) (by kernel_rfl) ((Below.refl _ _).drew) (fun hS => ?_)
        have hb0 : Below wg.heap.size wg wg.drew := (Below.refl _ _).drew
        have qB0 := B0.out.trans (hb0.mono B0.out.size)
        clear hb0 B0
        generalize wg.drew = Wzs at hS qB0 ⊢
        have B0 := Lib.hid qB0
        clear qB0
        refine wpAnyH_ready (rs := [0]) (by kernel_rfl) (by simp) ?_
        refine' (AllReadyH.cons ?hoc0z (fun K hK => ?stc0z) AllReadyH.nil)
        case hoc0z => (simp only [List.getElem?_toArray, List.getElem?_cons_zero]; rfl)
        go_simp
        refine (AL.out Wzs).mono ?_
        rintro e Wzx0 ⟨rfl, hb⟩
        have B0 := Lib.hid (B0.out.trans (hb.mono B0.out.size))
        go_wp2_with fail
        refine hK.out _ _ (hS.trans (hb.mono hS.size)) (fun hHeld => ?_)
        clear hK K
        try simp only [Act.put, List.setIfInBounds_toArray, List.set_cons_succ, List.set_cons_zero]
        clear hS
        have hS := hHeld
        clear hHeld
        clear hb
        refine' wpAnyH_take (i := 1) ?h1x1zx0 ?hsx1zx0 ?hfx1zx0 ?hrx1zx0 ?hQx1zx0 (Or.inl ⟨?hwx1zx0, ?hyx1zx0⟩) hS ?restx1zx0
        case h1x1zx0 => (simp only [List.getElem?_toArray, List.getElem?_cons_succ, List.getElem?_cons_zero]; rfl)
        case hsx1zx0 | hfx1zx0 | hrx1zx0 => kernel_rfl
        case hQx1zx0 => exact fun _ _ _ h => h
        case hwx1zx0 => rfl
        case hyx1zx0 =>
          intro W hW
          go_simp
          try with_reducible rfl
        simp only [Act.put, List.setIfInBounds_toArray, List.set_cons_succ, List.set_cons_zero]
        refine' wpAnyH_take (i := 2) ?h1x2zx0 ?hsx2zx0 ?hfx2zx0 ?hrx2zx0 ?hQx2zx0 (Or.inl ⟨?hwx2zx0, ?hyx2zx0⟩) hS ?restx2zx0
        case h1x2zx0 => (simp only [List.getElem?_toArray, List.getElem?_cons_succ, List.getElem?_cons_zero]; rfl)
        case hsx2zx0 | hfx2zx0 | hrx2zx0 => kernel_rfl
        case hQx2zx0 => exact fun _ _ _ h => h
        case hwx2zx0 => rfl
        case hyx2zx0 =>
          intro W hW
          go_simp
          try with_reducible rfl
        simp only [Act.put, List.setIfInBounds_toArray, List.set_cons_succ, List.set_cons_zero]
        refine' wpAnyH_take (i := 3) ?h1x3zx0 ?hsx3zx0 ?hfx3zx0 ?hrx3zx0 ?hQx3zx0 (Or.inl ⟨?hwx3zx0, ?hyx3zx0⟩) hS ?restx3zx0
        case h1x3zx0 => (simp only [List.getElem?_toArray, List.getElem?_cons_succ, List.getElem?_cons_zero]; rfl)
        case hsx3zx0 | hfx3zx0 | hrx3zx0 => kernel_rfl
        case hQx3zx0 => exact fun _ _ _ h => h
        case hwx3zx0 => rfl
        case hyx3zx0 =>
          intro W hW
          go_simp
          try with_reducible rfl
        simp only [Act.put, List.setIfInBounds_toArray, List.set_cons_succ, List.set_cons_zero]
        refine' wpAnyH_take (i := 4) ?h1x4zx0 ?hsx4zx0 ?hfx4zx0 ?hrx4zx0 ?hQx4zx0 (Or.inl ⟨?hwx4zx0, ?hyx4zx0⟩) hS ?restx4zx0
        case h1x4zx0 => (simp only [List.getElem?_toArray, List.getElem?_cons_succ, List.getElem?_cons_zero]; rfl)
        case hsx4zx0 | hfx4zx0 | hrx4zx0 => kernel_rfl
        case hQx4zx0 => exact fun _ _ _ h => h
        case hwx4zx0 => rfl
        case hyx4zx0 =>
          intro W hW
          go_simp
          try with_reducible rfl
        simp only [Act.put, List.setIfInBounds_toArray, List.set_cons_succ, List.set_cons_zero]
        refine' wpAnyH_take (i := 5) ?h1x5zx0 ?hsx5zx0 ?hfx5zx0 ?hrx5zx0 ?hQx5zx0 (Or.inl ⟨?hwx5zx0, ?hyx5zx0⟩) hS ?restx5zx0
        case h1x5zx0 => (simp only [List.getElem?_toArray, List.getElem?_cons_succ, List.getElem?_cons_zero]; rfl)
        case hsx5zx0 | hfx5zx0 | hrx5zx0 => kernel_rfl
        case hQx5zx0 => exact fun _ _ _ h => h
        case hwx5zx0 => rfl
        case hyx5zx0 =>
          intro W hW
          go_simp
          try with_reducible rfl
        simp only [Act.put, List.setIfInBounds_toArray, List.set_cons_succ, List.set_cons_zero]
        refine' wpAnyH_take (i := 6) ?h1x6zx0 ?hsx6zx0 ?hfx6zx0 ?hrx6zx0 ?hQx6zx0 (Or.inl ⟨?hwx6zx0, ?hyx6zx0⟩) hS ?restx6zx0
        case h1x6zx0 => (simp only [List.getElem?_toArray, List.getElem?_cons_succ, List.getElem?_cons_zero]; rfl)
        case hsx6zx0 | hfx6zx0 | hrx6zx0 => kernel_rfl
        case hQx6zx0 => exact fun _ _ _ h => h
        case hwx6zx0 => rfl
        case hyx6zx0 =>
          intro W hW
          go_simp
          try with_reducible rfl
        simp only [Act.put, List.setIfInBounds_toArray, List.set_cons_succ, List.set_cons_zero]
        refine' wpAnyH_take (i := 7) ?h1x7zx0 ?hsx7zx0 ?hfx7zx0 ?hrx7zx0 ?hQx7zx0 (Or.inl ⟨?hwx7zx0, ?hyx7zx0⟩) hS ?restx7zx0
        case h1x7zx0 => (simp only [List.getElem?_toArray, List.getElem?_cons_succ, List.getElem?_cons_zero]; rfl)
        case hsx7zx0 | hfx7zx0 | hrx7zx0 => kernel_rfl
        case hQx7zx0 => exact fun _ _ _ h => h
        case hwx7zx0 => rfl
        case hyx7zx0 =>
          intro W hW
          go_simp
          try with_reducible rfl
        simp only [Act.put, List.setIfInBounds_toArray, List.set_cons_succ, List.set_cons_zero]
        refine' wpAnyH_take (i := 8) ?h1x8zx0 ?hsx8zx0 ?hfx8zx0 ?hrx8zx0 ?hQx8zx0 (Or.inl ⟨?hwx8zx0, ?hyx8zx0⟩) hS ?restx8zx0
        case h1x8zx0 => (simp only [List.getElem?_toArray, List.getElem?_cons_succ, List.getElem?_cons_zero]; rfl)
        case hsx8zx0 | hfx8zx0 | hrx8zx0 => kernel_rfl
        case hQx8zx0 => exact fun _ _ _ h => h
        case hwx8zx0 => rfl
        case hyx8zx0 =>
          intro W hW
          go_simp
          try with_reducible rfl
        simp only [Act.put, List.setIfInBounds_toArray, List.set_cons_succ, List.set_cons_zero]
        refine' wpAnyH_take (i := 9) ?h1x9zx0 ?hsx9zx0 ?hfx9zx0 ?hrx9zx0 ?hQx9zx0 (Or.inr ⟨?hwx9zx0, rfl⟩) hS ?restx9zx0
        case h1x9zx0 => (simp only [List.getElem?_toArray, List.getElem?_cons_succ, List.getElem?_cons_zero]; rfl)
        case hsx9zx0 | hfx9zx0 | hrx9zx0 => kernel_rfl
        case hQx9zx0 => exact fun _ _ _ h => h
        case hwx9zx0 => rfl
        simp only [Act.put, List.setIfInBounds_toArray, List.set_cons_succ, List.set_cons_zero]
        refine' wpAnyH_take (i := 10) ?h1x10zx0 ?hsx10zx0 ?hfx10zx0 ?hrx10zx0 ?hQx10zx0 (Or.inr ⟨?hwx10zx0, rfl⟩) hS ?restx10zx0
        case h1x10zx0 => (simp only [List.getElem?_toArray, List.getElem?_cons_succ, List.getElem?_cons_zero]; rfl)
        case hsx10zx0 | hfx10zx0 | hrx10zx0 => kernel_rfl
        case hQx10zx0 => exact fun _ _ _ h => h
        case hwx10zx0 => rfl
        simp only [Act.put, List.setIfInBounds_toArray, List.set_cons_succ, List.set_cons_zero]
        refine' wpAnyH_take (i := 11) ?h1x11zx0 ?hsx11zx0 ?hfx11zx0 ?hrx11zx0 ?hQx11zx0 (Or.inr ⟨?hwx11zx0, rfl⟩) hS ?restx11zx0
        case h1x11zx0 => (simp only [List.getElem?_toArray, List.getElem?_cons_succ, List.getElem?_cons_zero]; rfl)
        case hsx11zx0 | hfx11zx0 | hrx11zx0 => kernel_rfl
        case hQx11zx0 => exact fun _ _ _ h => h
        case hwx11zx0 => rfl
        simp only [Act.put, List.setIfInBounds_toArray, List.set_cons_succ, List.set_cons_zero]
        refine' wpAnyH_take (i := 12) ?h1x12zx0 ?hsx12zx0 ?hfx12zx0 ?hrx12zx0 ?hQx12zx0 (Or.inr ⟨?hwx12zx0, rfl⟩) hS ?restx12zx0
        case h1x12zx0 => (simp only [List.getElem?_toArray, List.getElem?_cons_succ, List.getElem?_cons_zero]; rfl)
        case hsx12zx0 | hfx12zx0 | hrx12zx0 => kernel_rfl
        case hQx12zx0 => exact fun _ _ _ h => h
        case hwx12zx0 => rfl
        simp only [Act.put, List.setIfInBounds_toArray, List.set_cons_succ, List.set_cons_zero]
        refine' wpAnyH_take (i := 13) ?h1x13zx0 ?hsx13zx0 ?hfx13zx0 ?hrx13zx0 ?hQx13zx0 (Or.inr ⟨?hwx13zx0, rfl⟩) hS ?restx13zx0
        case h1x13zx0 => (simp only [List.getElem?_toArray, List.getElem?_cons_succ, List.getElem?_cons_zero]; rfl)
        case hsx13zx0 | hfx13zx0 | hrx13zx0 => kernel_rfl
        case hQx13zx0 => exact fun _ _ _ h => h
        case hwx13zx0 => rfl
        simp only [Act.put, List.setIfInBounds_toArray, List.set_cons_succ, List.set_cons_zero]
        refine' wpAnyH_take (i := 14) ?h1x14zx0 ?hsx14zx0 ?hfx14zx0 ?hrx14zx0 ?hQx14zx0 (Or.inr ⟨?hwx14zx0, rfl⟩) hS ?restx14zx0
        case h1x14zx0 => (simp only [List.getElem?_toArray, List.getElem?_cons_succ, List.getElem?_cons_zero]; rfl)
        case hsx14zx0 | hfx14zx0 | hrx14zx0 => kernel_rfl
        case hQx14zx0 => exact fun _ _ _ h => h
        case hwx14zx0 => rfl
        simp only [Act.put, List.setIfInBounds_toArray, List.set_cons_succ, List.set_cons_zero]
        refine' wpAnyH_take (i := 15) ?h1x15zx0 ?hsx15zx0 ?hfx15zx0 ?hrx15zx0 ?hQx15zx0 (Or.inr ⟨?hwx15zx0, rfl⟩) hS ?restx15zx0
        case h1x15zx0 => (simp only [List.getElem?_toArray, List.getElem?_cons_succ, List.getElem?_cons_zero]; rfl)
        case hsx15zx0 | hfx15zx0 | hrx15zx0 => kernel_rfl
        case hQx15zx0 => exact fun _ _ _ h => h
        case hwx15zx0 => rfl
        simp only [Act.put, List.setIfInBounds_toArray, List.set_cons_succ, List.set_cons_zero]
        refine' wpAnyH_take (i := 16) ?h1x16zx0 ?hsx16zx0 ?hfx16zx0 ?hrx16zx0 ?hQx16zx0 (Or.inl ⟨?hwx16zx0, ?hyx16zx0⟩) hS ?restx16zx0
        case h1x16zx0 => (simp only [List.getElem?_toArray, List.getElem?_cons_succ, List.getElem?_cons_zero]; rfl)
        case hsx16zx0 | hfx16zx0 | hrx16zx0 => kernel_rfl
        case hQx16zx0 => exact fun _ _ _ h => h
        case hwx16zx0 => rfl
        case hyx16zx0 =>
          intro W hW
          go_simp
          try with_reducible rfl
        simp only [Act.put, List.setIfInBounds_toArray, List.set_cons_succ, List.set_cons_zero]
        refine' wpAnyH_take (i := 17) ?h1x17zx0 ?hsx17zx0 ?hfx17zx0 ?hrx17zx0 ?hQx17zx0 (Or.inl ⟨?hwx17zx0, ?hyx17zx0⟩) hS ?restx17zx0
        case h1x17zx0 => (simp only [List.getElem?_toArray, List.getElem?_cons_succ, List.getElem?_cons_zero]; rfl)
        case hsx17zx0 | hfx17zx0 | hrx17zx0 => kernel_rfl
        case hQx17zx0 => exact fun _ _ _ h => h
        case hwx17zx0 => rfl
        case hyx17zx0 =>
          intro W hW
          go_simp
          try with_reducible rfl
        simp only [Act.put, List.setIfInBounds_toArray, List.set_cons_succ, List.set_cons_zero]
        refine' wpAnyH_take (i := 18) ?h1x18zx0 ?hsx18zx0 ?hfx18zx0 ?hrx18zx0 ?hQx18zx0 (Or.inl ⟨?hwx18zx0, ?hyx18zx0⟩) hS ?restx18zx0
        case h1x18zx0 => (simp only [List.getElem?_toArray, List.getElem?_cons_succ, List.getElem?_cons_zero]; rfl)
        case hsx18zx0 | hfx18zx0 | hrx18zx0 => kernel_rfl
        case hQx18zx0 => exact fun _ _ _ h => h
        case hwx18zx0 => rfl
        case hyx18zx0 =>
          intro W hW
          go_simp
          try with_reducible rfl
        simp only [Act.put, List.setIfInBounds_toArray, List.set_cons_succ, List.set_cons_zero]
        refine wpAnyH_done (by kernel_rfl) ?_ _
        go_wp2_with fail
        go_ret
        exact ⟨rfl, B0.out⟩
      | true =>
        refine wp_region_held_drew (S := fun W => Below wg.heap.size wg W ∧ W.heap[w.heap.size]? = some (.cells A 26 (0, 0)) ∧ W.heap[(w.heap.size + 1)]? = some (.cells M 26 (0, 0)) ∧ W.heap[gx]? = some (.cells X 32 (0, 0)) ∧ W.heap[gy]? = some (.cells Y 32 (0, 0))) (by kernel_rfl) (⟨(Below.refl _ _).drew, GA.out, GM.out, GX.out, GY.out⟩) (fun hS => ?_)
        have hb0 : Below wg.heap.size wg wg.drew := (Below.refl _ _).drew
        have qB0 := B0.out.trans (hb0.mono B0.out.size)
        have qNR := NR.out.below hb0
        have qMR := MR.out.below hb0
        have qDX := DX.out.below hb0
        have qDY := DY.out.below hb0
        clear hb0 B0 NR MR DX DY
        generalize wg.drew = Wys at hS qB0 qNR qMR qDX qDY ⊢
        have B0 := Lib.hid qB0
        have NR := Lib.hid qNR
        have MR := Lib.hid qMR
        have DX := Lib.hid qDX
        have DY := Lib.hid qDY
        clear qB0 qNR qMR qDX qDY
        refine wpAnyH_ready (rs := [0]) (by kernel_rfl) (by simp) ?_
        refine' (AllReadyH.cons ?hoc0y (fun K hK => ?stc0y) AllReadyH.nil)
        case hoc0y => (simp only [List.getElem?_toArray, List.getElem?_cons_zero]; rfl)
        go_simp
        refine (AL.out Wys).mono ?_
        rintro e Wyx0 ⟨rfl, hb⟩
        have B0 := Lib.hid (B0.out.trans (hb.mono B0.out.size))
        have NR := Lib.hid (NR.out.below hb)
        have MR := Lib.hid (MR.out.below hb)
        have DX := Lib.hid (DX.out.below hb)
        have DY := Lib.hid (DY.out.below hb)
        go_wp2_with fail
        refine hK.out _ _ (⟨hS.1.trans (hb.mono hS.1.size), (hb.block _ (blk_lt hS.2.1)).trans hS.2.1, (hb.block _ (blk_lt hS.2.2.1)).trans hS.2.2.1, (hb.block _ (blk_lt hS.2.2.2.1)).trans hS.2.2.2.1, (hb.block _ (blk_lt hS.2.2.2.2)).trans hS.2.2.2.2⟩) (fun hHeld => ?_)
        clear hK K
        try simp only [Act.put, List.setIfInBounds_toArray, List.set_cons_succ, List.set_cons_zero]
        clear hS
        have hS := hHeld
        clear hHeld
        clear hb
        refine' wpAnyH_take (i := 1) ?h1x1yx0 ?hsx1yx0 ?hfx1yx0 ?hrx1yx0 ?hQx1yx0 (Or.inl ⟨?hwx1yx0, ?hyx1yx0⟩) hS ?restx1yx0
        case h1x1yx0 => (simp only [List.getElem?_toArray, List.getElem?_cons_succ, List.getElem?_cons_zero]; rfl)
        case hsx1yx0 | hfx1yx0 | hrx1yx0 => kernel_rfl
        case hQx1yx0 => exact fun _ _ _ h => h
        case hwx1yx0 => rfl
        case hyx1yx0 =>
          intro W hW
          go_simp
          try with_reducible rfl
        simp only [Act.put, List.setIfInBounds_toArray, List.set_cons_succ, List.set_cons_zero]
        refine' wpAnyH_take (i := 2) ?h1x2yx0 ?hsx2yx0 ?hfx2yx0 ?hrx2yx0 ?hQx2yx0 (Or.inl ⟨?hwx2yx0, ?hyx2yx0⟩) hS ?restx2yx0
        case h1x2yx0 => (simp only [List.getElem?_toArray, List.getElem?_cons_succ, List.getElem?_cons_zero]; rfl)
        case hsx2yx0 | hfx2yx0 | hrx2yx0 => kernel_rfl
        case hQx2yx0 => exact fun _ _ _ h => h
        case hwx2yx0 => rfl
        case hyx2yx0 =>
          intro W hW
          go_simp
          try with_reducible rfl
        simp only [Act.put, List.setIfInBounds_toArray, List.set_cons_succ, List.set_cons_zero]
        refine' wpAnyH_take (i := 3) ?h1x3yx0 ?hsx3yx0 ?hfx3yx0 ?hrx3yx0 ?hQx3yx0 (Or.inl ⟨?hwx3yx0, ?hyx3yx0⟩) hS ?restx3yx0
        case h1x3yx0 => (simp only [List.getElem?_toArray, List.getElem?_cons_succ, List.getElem?_cons_zero]; rfl)
        case hsx3yx0 | hfx3yx0 | hrx3yx0 => kernel_rfl
        case hQx3yx0 => exact fun _ _ _ h => h
        case hwx3yx0 => rfl
        case hyx3yx0 =>
          intro W hW
          go_simp
          try with_reducible rfl
        simp only [Act.put, List.setIfInBounds_toArray, List.set_cons_succ, List.set_cons_zero]
        refine' wpAnyH_take (i := 4) ?h1x4yx0 ?hsx4yx0 ?hfx4yx0 ?hrx4yx0 ?hQx4yx0 (Or.inl ⟨?hwx4yx0, ?hyx4yx0⟩) hS ?restx4yx0
        case h1x4yx0 => (simp only [List.getElem?_toArray, List.getElem?_cons_succ, List.getElem?_cons_zero]; rfl)
        case hsx4yx0 | hfx4yx0 | hrx4yx0 => kernel_rfl
        case hQx4yx0 => exact fun _ _ _ h => h
        case hwx4yx0 => rfl
        case hyx4yx0 =>
          intro W hW
          go_simp
          try with_reducible rfl
        simp only [Act.put, List.setIfInBounds_toArray, List.set_cons_succ, List.set_cons_zero]
        refine' wpAnyH_take (i := 5) ?h1x5yx0 ?hsx5yx0 ?hfx5yx0 ?hrx5yx0 ?hQx5yx0 (Or.inl ⟨?hwx5yx0, ?hyx5yx0⟩) hS ?restx5yx0
        case h1x5yx0 => (simp only [List.getElem?_toArray, List.getElem?_cons_succ, List.getElem?_cons_zero]; rfl)
        case hsx5yx0 | hfx5yx0 | hrx5yx0 => kernel_rfl
        case hQx5yx0 => exact fun _ _ _ h => h
        case hwx5yx0 => rfl
        case hyx5yx0 =>
          intro W hW
          go_simp
          try with_reducible rfl
        simp only [Act.put, List.setIfInBounds_toArray, List.set_cons_succ, List.set_cons_zero]
        refine' wpAnyH_take (i := 6) ?h1x6yx0 ?hsx6yx0 ?hfx6yx0 ?hrx6yx0 ?hQx6yx0 (Or.inl ⟨?hwx6yx0, ?hyx6yx0⟩) hS ?restx6yx0
        case h1x6yx0 => (simp only [List.getElem?_toArray, List.getElem?_cons_succ, List.getElem?_cons_zero]; rfl)
        case hsx6yx0 | hfx6yx0 | hrx6yx0 => kernel_rfl
        case hQx6yx0 => exact fun _ _ _ h => h
        case hwx6yx0 => rfl
        case hyx6yx0 =>
          intro W hW
          go_simp
          try with_reducible rfl
        simp only [Act.put, List.setIfInBounds_toArray, List.set_cons_succ, List.set_cons_zero]
        refine' wpAnyH_take (i := 7) ?h1x7yx0 ?hsx7yx0 ?hfx7yx0 ?hrx7yx0 ?hQx7yx0 (Or.inl ⟨?hwx7yx0, ?hyx7yx0⟩) hS ?restx7yx0
        case h1x7yx0 => (simp only [List.getElem?_toArray, List.getElem?_cons_succ, List.getElem?_cons_zero]; rfl)
        case hsx7yx0 | hfx7yx0 | hrx7yx0 => kernel_rfl
        case hQx7yx0 => exact fun _ _ _ h => h
        case hwx7yx0 => rfl
        case hyx7yx0 =>
          intro W hW
          go_simp
          try with_reducible rfl
        simp only [Act.put, List.setIfInBounds_toArray, List.set_cons_succ, List.set_cons_zero]
        refine' wpAnyH_take (i := 8) ?h1x8yx0 ?hsx8yx0 ?hfx8yx0 ?hrx8yx0 ?hQx8yx0 (Or.inl ⟨?hwx8yx0, ?hyx8yx0⟩) hS ?restx8yx0
        case h1x8yx0 => (simp only [List.getElem?_toArray, List.getElem?_cons_succ, List.getElem?_cons_zero]; rfl)
        case hsx8yx0 | hfx8yx0 | hrx8yx0 => kernel_rfl
        case hQx8yx0 => exact fun _ _ _ h => h
        case hwx8yx0 => rfl
        case hyx8yx0 =>
          intro W hW
          go_simp
          try with_reducible rfl
        simp only [Act.put, List.setIfInBounds_toArray, List.set_cons_succ, List.set_cons_zero]
        refine' wpAnyH_take (i := 9) ?h1x9yx0 ?hsx9yx0 ?hfx9yx0 ?hrx9yx0 ?hQx9yx0 (yieldsIf_load_at ?hwx9yx0 26 (.tmp 3) ?hopx9yx0 w.heap.size 0 rfl A _ (fun W hW => range_row hW.2.1) Try.underlying26 rfl ?hix9yx0) hS ?restx9yx0
        case h1x9yx0 => (simp only [List.getElem?_toArray, List.getElem?_cons_succ, List.getElem?_cons_zero]; rfl)
        case hopx9yx0 => rfl
        case hsx9yx0 | hfx9yx0 | hrx9yx0 => kernel_rfl
        case hQx9yx0 => exact fun _ _ _ h => h
        case hwx9yx0 => rfl
        case hix9yx0 => exact IA.out
        simp only [Act.put, List.setIfInBounds_toArray, List.set_cons_succ, List.set_cons_zero]
        refine' wpAnyH_take (i := 10) ?h1x10yx0 ?hsx10yx0 ?hfx10yx0 ?hrx10yx0 ?hQx10yx0 (yieldsIf_load_at ?hwx10yx0 26 (.tmp 4) ?hopx10yx0 (w.heap.size + 1) 0 rfl M _ (fun W hW => range_row hW.2.2.1) Try.underlying26 rfl ?hix10yx0) hS ?restx10yx0
        case h1x10yx0 => (simp only [List.getElem?_toArray, List.getElem?_cons_succ, List.getElem?_cons_zero]; rfl)
        case hopx10yx0 => rfl
        case hsx10yx0 | hfx10yx0 | hrx10yx0 => kernel_rfl
        case hQx10yx0 => exact fun _ _ _ h => h
        case hwx10yx0 => rfl
        case hix10yx0 => exact IM.out
        simp only [Act.put, List.setIfInBounds_toArray, List.set_cons_succ, List.set_cons_zero]
        refine' wpAnyH_take (i := 12) ?h1x12yx0 ?hsx12yx0 ?hfx12yx0 ?hrx12yx0 ?hQx12yx0 (yieldsIf_load_at ?hwx12yx0 32 (.tmp 7) ?hopx12yx0 gx 0 rfl X _ (fun W hW => range_row hW.2.2.2.1) Try.underlying32 rfl ?hix12yx0) hS ?restx12yx0
        case h1x12yx0 => (simp only [List.getElem?_toArray, List.getElem?_cons_succ, List.getElem?_cons_zero]; rfl)
        case hopx12yx0 => rfl
        case hsx12yx0 | hfx12yx0 | hrx12yx0 => kernel_rfl
        case hQx12yx0 => exact fun _ _ _ h => h
        case hwx12yx0 => rfl
        case hix12yx0 => exact Igx.out
        simp only [Act.put, List.setIfInBounds_toArray, List.set_cons_succ, List.set_cons_zero]
        refine' wpAnyH_take (i := 13) ?h1x13yx0 ?hsx13yx0 ?hfx13yx0 ?hrx13yx0 ?hQx13yx0 (yieldsIf_load_at ?hwx13yx0 32 (.tmp 9) ?hopx13yx0 gy 0 rfl Y _ (fun W hW => range_row hW.2.2.2.2) Try.underlying32 rfl ?hix13yx0) hS ?restx13yx0
        case h1x13yx0 => (simp only [List.getElem?_toArray, List.getElem?_cons_succ, List.getElem?_cons_zero]; rfl)
        case hopx13yx0 => rfl
        case hsx13yx0 | hfx13yx0 | hrx13yx0 => kernel_rfl
        case hQx13yx0 => exact fun _ _ _ h => h
        case hwx13yx0 => rfl
        case hix13yx0 => exact Igy.out
        simp only [Act.put, List.setIfInBounds_toArray, List.set_cons_succ, List.set_cons_zero]
        refine wpAnyH_ready (rs := [11]) (by kernel_rfl) (by simp) ?_
        refine' (AllReadyH.cons ?hoc11yx0 (fun K hK => ?stc11yx0) AllReadyH.nil)
        case hoc11yx0 => (simp only [List.getElem?_toArray, List.getElem?_cons_succ, List.getElem?_cons_zero]; rfl)
        go_simp
        refine (SNM.out Wyx0 NR.out MR.out).mono ?_
        rintro e Wyx0x11 ⟨rfl, hb⟩
        have B0 := Lib.hid (B0.out.trans (hb.mono B0.out.size))
        have NR := Lib.hid (NR.out.below hb)
        have MR := Lib.hid (MR.out.below hb)
        have DX := Lib.hid (DX.out.below hb)
        have DY := Lib.hid (DY.out.below hb)
        go_wp2_with fail
        refine hK.out _ _ (⟨hS.1.trans (hb.mono hS.1.size), (hb.block _ (blk_lt hS.2.1)).trans hS.2.1, (hb.block _ (blk_lt hS.2.2.1)).trans hS.2.2.1, (hb.block _ (blk_lt hS.2.2.2.1)).trans hS.2.2.2.1, (hb.block _ (blk_lt hS.2.2.2.2)).trans hS.2.2.2.2⟩) (fun hHeld => ?_)
        clear hK K
        try simp only [Act.put, List.setIfInBounds_toArray, List.set_cons_succ, List.set_cons_zero]
        clear hS
        have hS := hHeld
        clear hHeld
        clear hb
        refine wpAnyH_ready (rs := [14]) (by kernel_rfl) (by simp) ?_
        refine' (AllReadyH.cons ?hoc14yx0x11 (fun K hK => ?stc14yx0x11) AllReadyH.nil)
        case hoc14yx0x11 => (simp only [List.getElem?_toArray, List.getElem?_cons_succ, List.getElem?_cons_zero]; rfl)
        go_simp
        refine (SXY.out trivial _ _ Wyx0x11 DX.out DY.out).mono ?_
        rintro e Wyx0x11x14 ⟨rfl, hb⟩
        have B0 := Lib.hid (B0.out.trans (hb.mono B0.out.size))
        have NR := Lib.hid (NR.out.below hb)
        have MR := Lib.hid (MR.out.below hb)
        have DX := Lib.hid (DX.out.below hb)
        have DY := Lib.hid (DY.out.below hb)
        go_wp2_with fail
        refine hK.out _ _ (⟨hS.1.trans (hb.mono hS.1.size), (hb.block _ (blk_lt hS.2.1)).trans hS.2.1, (hb.block _ (blk_lt hS.2.2.1)).trans hS.2.2.1, (hb.block _ (blk_lt hS.2.2.2.1)).trans hS.2.2.2.1, (hb.block _ (blk_lt hS.2.2.2.2)).trans hS.2.2.2.2⟩) (fun hHeld => ?_)
        clear hK K
        try simp only [Act.put, List.setIfInBounds_toArray, List.set_cons_succ, List.set_cons_zero]
        clear hS
        have hS := hHeld
        clear hHeld
        clear hb
        refine' wpAnyH_take (i := 15) ?h1x15yx0x11x14 ?hsx15yx0x11x14 ?hfx15yx0x11x14 ?hrx15yx0x11x14 ?hQx15yx0x11x14 (Or.inl ⟨?hwx15yx0x11x14, ?hyx15yx0x11x14⟩) hS ?restx15yx0x11x14
        case h1x15yx0x11x14 => (simp only [List.getElem?_toArray, List.getElem?_cons_succ, List.getElem?_cons_zero]; rfl)
        case hsx15yx0x11x14 | hfx15yx0x11x14 | hrx15yx0x11x14 => kernel_rfl
        case hQx15yx0x11x14 => exact fun _ _ _ h => h
        case hwx15yx0x11x14 => rfl
        case hyx15yx0x11x14 =>
          intro W hW
          go_simp
          try with_reducible rfl
        simp only [Act.put, List.setIfInBounds_toArray, List.set_cons_succ, List.set_cons_zero]
        refine' wpAnyH_take (i := 16) ?h1x16yx0x11x14 ?hsx16yx0x11x14 ?hfx16yx0x11x14 ?hrx16yx0x11x14 ?hQx16yx0x11x14 (Or.inl ⟨?hwx16yx0x11x14, ?hyx16yx0x11x14⟩) hS ?restx16yx0x11x14
        case h1x16yx0x11x14 => (simp only [List.getElem?_toArray, List.getElem?_cons_succ, List.getElem?_cons_zero]; rfl)
        case hsx16yx0x11x14 | hfx16yx0x11x14 | hrx16yx0x11x14 => kernel_rfl
        case hQx16yx0x11x14 => exact fun _ _ _ h => h
        case hwx16yx0x11x14 => rfl
        case hyx16yx0x11x14 =>
          intro W hW
          go_simp
          try with_reducible rfl
        simp only [Act.put, List.setIfInBounds_toArray, List.set_cons_succ, List.set_cons_zero]
        refine' wpAnyH_take (i := 17) ?h1x17yx0x11x14 ?hsx17yx0x11x14 ?hfx17yx0x11x14 ?hrx17yx0x11x14 ?hQx17yx0x11x14 (Or.inl ⟨?hwx17yx0x11x14, ?hyx17yx0x11x14⟩) hS ?restx17yx0x11x14
        case h1x17yx0x11x14 => (simp only [List.getElem?_toArray, List.getElem?_cons_succ, List.getElem?_cons_zero]; rfl)
        case hsx17yx0x11x14 | hfx17yx0x11x14 | hrx17yx0x11x14 => kernel_rfl
        case hQx17yx0x11x14 => exact fun _ _ _ h => h
        case hwx17yx0x11x14 => rfl
        case hyx17yx0x11x14 =>
          intro W hW
          go_simp
          try with_reducible rfl
        simp only [Act.put, List.setIfInBounds_toArray, List.set_cons_succ, List.set_cons_zero]
        refine' wpAnyH_take (i := 18) ?h1x18yx0x11x14 ?hsx18yx0x11x14 ?hfx18yx0x11x14 ?hrx18yx0x11x14 ?hQx18yx0x11x14 (Or.inl ⟨?hwx18yx0x11x14, ?hyx18yx0x11x14⟩) hS ?restx18yx0x11x14
        case h1x18yx0x11x14 => (simp only [List.getElem?_toArray, List.getElem?_cons_succ, List.getElem?_cons_zero]; rfl)
        case hsx18yx0x11x14 | hfx18yx0x11x14 | hrx18yx0x11x14 => kernel_rfl
        case hQx18yx0x11x14 => exact fun _ _ _ h => h
        case hwx18yx0x11x14 => rfl
        case hyx18yx0x11x14 =>
          intro W hW
          go_simp
          try with_reducible rfl
        simp only [Act.put, List.setIfInBounds_toArray, List.set_cons_succ, List.set_cons_zero]
        refine wpAnyH_done (by kernel_rfl) ?_ _
        go_wp2_with fail
        go_ret
        exact ⟨rfl, B0.out⟩
set_option maxRecDepth 100000 in
set_option maxHeartbeats 32000000 in
theorem bytes_m111xx (A M : Array Value) (n m : NV) (xs : List Int) (v : Value) (w : World) (hn : ND w (.agg A) n) (hm : ND w (.agg M) m) (hs : Sees w v xs) (fn : ∀ p ∈ n.qs, 0 ≤ p.1 ∧ p.1 ≤ 4294967295) (fm : ∀ p ∈ m.qs, 0 ≤ p.1 ∧ p.1 ≤ 4294967295) (hgn : greatB n = false) (hgm : greatB m = false) (hl : xs.length ≤ 2000) (hok : okN n = true) (hrd : rightD (asN n) = true) (his : isN xs = true) : Calls Try.prog 3 #[.agg A, .agg M, v] w (AliveP w) := by
  obtain ⟨xv, cv, rfl, h63⟩ := hs.form
  have IA := Lib.hid hn.info
  have IM := Lib.hid hm.info
  have AL := Lib.hid alive8
  obtain ⟨W1, hW1⟩ : ∃ W1, W1 = (w.alloc (.cells A 26)).alloc (.cells M 26) := ⟨_, rfl⟩
  have b0 : Below w.heap.size w (w.alloc (.cells A 26)) := (Below.refl _ _).alloc (Nat.le_refl _) _
  have b1 : Below w.heap.size w W1 := by rw [hW1]; exact b0.alloc (by simp) _
  have GA : Hid (W1.heap[w.heap.size]? = some (.cells A 26 (0, 0))) := by show _ = _; rw [hW1, Below.heap_alloc _ _ _ (by simp)]; exact heap_alloc_new w _
  have GM : Hid (W1.heap[w.heap.size + 1]? = some (.cells M 26 (0, 0))) := by
    show _ = _
    rw [hW1]
    have := heap_alloc_new (w.alloc (.cells A 26)) (.cells M 26)
    simpa using this
  have NR := Lib.hid (hn.below b1)
  have MR := Lib.hid (hm.below b1)
  have SB := Lib.hid (hs.below b1)
  have B0 := Lib.hid b1
  have HW1 := Lib.hid hW1
  have HBY := Lib.hid hs.1
  obtain ⟨kb, hkm⟩ : ∃ kb, okN m = kb := ⟨_, rfl⟩
  have GTn : Hid (∀ v W, ND W v n → Calls Try.prog 7 #[v] W fun e w' => e = .returned (.bool false) ∧ Below W.heap.size W w') := fun v W h => by have := great v n W h; rw [hgn] at this; exact this
  have GTm : Hid (∀ v W, ND W v m → Calls Try.prog 7 #[v] W fun e w' => e = .returned (.bool false) ∧ Below W.heap.size W w') := fun v W h => by have := great v m W h; rw [hgm] at this; exact this
  have hll : (xs.length : Int) ≤ 2000 := by omega
  have n30 : n.ks.length ≤ 100 := by unfold greatB at hgn; simp only [Bool.or_eq_false_iff, decide_eq_false_iff_not] at hgn; omega
  have m30 : m.ks.length ≤ 100 := by unfold greatB at hgm; simp only [Bool.or_eq_false_iff, decide_eq_false_iff_not] at hgm; omega
  have np : n.okP := by obtain ⟨_, _, _, _, h1, _, _, h4, h5⟩ := hn; exact ⟨h1.1, h4, h5⟩
  have hrb : rightB n.leaf n.ks n.vs.length n.qs.length = true := by rw [right_eq np, hok, hrd]; rfl
  have xl : (asN n).l.length ≤ 100 := by
    unfold asN
    by_cases h : okN n = true
    · rw [if_pos h, parts_len]; exact n30
    · rw [if_neg h]; exact Nat.zero_le _
  have NX := Lib.hid (is_eq hs.1)
  have hisd : isD xs = true := by rw [NX.out.1, his]
  have ACn : Hid (∀ W, ND W (.agg A) n → Calls Try.prog 9 #[.agg A] W fun e w' => ∃ O, e = .returned (.tuple #[.agg O, .bool true]) ∧ DM w' (.agg O) (asN n) ∧ Below W.heap.size W w') := fun W h => by have := asD A n W h n30 fn; unfold AsP at this; rw [hok] at this; exact this
  have ACm : Hid (∀ W, ND W (.agg M) m → Calls Try.prog 9 #[.agg M] W fun e w' => ∃ O, e = .returned (.tuple #[.agg O, .bool kb]) ∧ DM w' (.agg O) (asN m) ∧ Below W.heap.size W w') := fun W h => by have := asD M m W h m30 fm; unfold AsP at this; rw [hkm] at this; exact this
  have WR : Hid (∀ v W, ND W v n → Calls Try.prog 10 #[v] W fun e w' => ∃ q, e = .returned (.tuple #[q, .int .i64 0]) ∧ Sees w' q (nB n) ∧ Below W.heap.size W w') := fun v W h => by
    have := write v n W h fn
    unfold WriteP wrE wrV at this
    rw [hrb] at this
    exact this
  have RT : Hid (∀ v W, ND W v n → Calls Try.prog 12 #[v] W fun e w' => e = .returned (.bool true) ∧ Below W.heap.size W w') := fun v W h => by have := rightN v n W h; rw [hrb] at this; exact this
  have RC : Hid (∀ O W, DM W (.agg O) (asN n) → Calls Try.prog 11 #[.agg O] W fun e w' => e = .returned (.bool true) ∧ Below W.heap.size W w') := fun O W h => by have := rightDC O (asN n) W h xl; rw [hrd] at this; exact this
  have WD : Hid (∀ O W, DM W (.agg O) (asN n) → Calls Try.prog 13 #[.agg O] W fun e w' => ∃ q, e = .returned (.tuple #[q, .int .i64 0]) ∧ Sees w' q (nB n) ∧ Below W.heap.size W w') := fun O W h => by
    have := writeD O (asN n) W h xl
    unfold WrP at this
    rw [hrd, wrD_asN hok] at this
    exact this
  have CP := Lib.hid (fun v W (h : Sees W v xs) => oc.copy v xs (by omega) W h)
  obtain ⟨gt, hgt⟩ : ∃ gt, gt = rdN xs := ⟨_, rfl⟩
  obtain ⟨zd, hzd⟩ : ∃ zd, zd = rdD xs := ⟨_, rfl⟩
  have RF : Hid (∀ v W, Sees W v xs → Calls Try.prog 15 #[v] W fun e w' => ∃ U, e = .returned (.tuple #[.agg U, .int .i64 0]) ∧ ND w' (.agg U) gt ∧ freshN W.heap.size (.agg U) ∧ Below W.heap.size W w') := fun v W h => by
    have := readF v xs W h (by omega)
    unfold ReadPF at this
    rw [his] at this
    refine this.mono fun e w' ⟨u, q1, q2, q3, q4⟩ => ?_
    obtain ⟨K, V, Q, rfl, _⟩ := id q2
    exact ⟨_, q1, by rw [hgt]; exact q2, q3, q4⟩
  have RDC : Hid (∀ v W, Sees W v xs → Calls Try.prog 16 #[v] W fun e w' => ∃ O, e = .returned (.tuple #[.agg O, .int .i64 0]) ∧ DM w' (.agg O) zd ∧ Below W.heap.size W w') := fun v W h => by
    have := readD v xs W h
    unfold ReadDP at this
    rw [hisd] at this
    rw [hzd]
    exact this
  have SLC : Hid (∀ U O W, ND W (.agg U) gt → DM W (.agg O) zd → Calls Try.prog 17 #[.agg U, .agg O] W fun e w' => e = .returned (.bool true) ∧ Below W.heap.size W w') := fun U O W h1 h2 => by
    rw [hgt] at h1
    rw [hzd] at h2
    have hc : (rdN xs).ks.length ≤ 100 := by
      have h9 := (isN_parts his).1
      unfold rightB at h9
      simp only [Bool.and_eq_true, decide_eq_true_eq] at h9
      obtain ⟨⟨_, h8, _⟩, _⟩ := h9
      cases hq : (rdN xs).leaf <;> rw [hq] at h8 <;> simp at h8 <;> omega
    have := sameL U O (rdN xs) (rdD xs) W h1 h1.info hc (rdN_fit hs.1) h2
    rw [(NX.out.2 his).1, (NX.out.2 his).2, show sameD (rdD xs) (rdD xs) = true by simp [sameD]] at this
    exact this
  obtain ⟨sb, hsb⟩ : ∃ sb, sb = sameB n m := ⟨_, rfl⟩
  have SNM : Hid (∀ W, ND W (.agg A) n → ND W (.agg M) m → Calls Try.prog 18 #[.agg A, .agg M] W fun e w' => e = .returned (.bool sb) ∧ Below W.heap.size W w') := fun W h1 h2 => by rw [hsb]; exact same _ _ n m W h1 h2
  have SXY : Hid (kb = true → ∀ X Y W, DM W (.agg X) (asN n) → DM W (.agg Y) (asN m) → Calls Try.prog 19 #[.agg X, .agg Y] W fun e w' => e = .returned (.bool sb) ∧ Below W.heap.size W w') := fun hk X Y W h1 h2 => by rw [hsb, same_eq hok (hkm.trans hk) fn fm]; exact sameDC X Y (asN n) (asN m) W h1 h2 xl
  have hz26 := z26
  have hz32 := z32
  have b26z := b26
  obtain ⟨Zn, hZn⟩ : ∃ Zn : Array Value, Zn = #[.bool false, .slice none 0 0, .slice none 0 0, .slice none 0 0] := ⟨_, rfl⟩
  obtain ⟨Zd, hZd⟩ : ∃ Zd : Array Value, Zd = #[.bool false, .slice none 0 0] := ⟨_, rfl⟩
  rw [← hZn] at hz26 b26z
  rw [← hZd] at hz32
  have BZ := Lib.hid b26z
  have NZ : Hid (∀ W, ND W (.agg Zn) nz) := fun W => by rw [hZn]; exact nd_nz W
  have ZnN : Hid (Zn.size = 4) := by show _ = _; rw [hZn]; rfl
  have ZdN : Hid (Zd.size = 2) := by show _ = _; rw [hZd]; rfl
  clear hW1 b0 b1 hn hm hs fn fm hgn hgm hl hok hrd his hkm n30 m30 np hrb xl hisd b26z hZn hZd hgt hzd NX hsb
  generalize asN n = xn at *
  generalize asN m = ym at *
  generalize nB n = bn at *
  go_enter Try.func3, Try.ntmps3
  go_upto_region 1 with (fail)
  rw [← HW1.out]
  go_wp2_with (refine wpList_load_row rfl 26 (.tmp 3) rfl w.heap.size rfl 26 A (0, 0) _ GA.out Try.underlying26 rfl IA.out ?_)
  refine (GTn.out _ _ NR.out).mono ?_
  rintro e w1 ⟨rfl, hb⟩
  have B0 := Lib.hid (B0.out.trans (hb.mono B0.out.size))
  have GA := Lib.hid ((hb.block _ (blk_lt GA.out)).trans GA.out)
  have GM := Lib.hid ((hb.block _ (blk_lt GM.out)).trans GM.out)
  have NR := Lib.hid (NR.out.below hb)
  have MR := Lib.hid (MR.out.below hb)
  have SB := Lib.hid (SB.out.below hb)
  clear hb
  go_wp2_with (refine wpList_load_met rfl 26 (.tmp 4) rfl (w.heap.size + 1) rfl 26 M (0, 0) _ GM.out Try.underlying26 ⟨_, rfl⟩ IM.out ?_)
  refine (GTm.out _ _ MR.out).mono ?_
  rintro e w2 ⟨rfl, hb⟩
  have B0 := Lib.hid (B0.out.trans (hb.mono B0.out.size))
  have GA := Lib.hid ((hb.block _ (blk_lt GA.out)).trans GA.out)
  have GM := Lib.hid ((hb.block _ (blk_lt GM.out)).trans GM.out)
  have NR := Lib.hid (NR.out.below hb)
  have MR := Lib.hid (MR.out.below hb)
  have SB := Lib.hid (SB.out.below hb)
  clear hb
  go_upto_region 3 with (fail)
  go_wp2_with (refine wpList_load_row rfl 26 (.tmp 3) rfl w.heap.size rfl 26 A (0, 0) _ GA.out Try.underlying26 rfl IA.out ?_)
  refine (ACn.out _ NR.out).mono ?_
  rintro e w3 ⟨X, rfl, hd, hb⟩
  have B0 := Lib.hid (B0.out.trans (hb.mono B0.out.size))
  have GA := Lib.hid ((hb.block _ (blk_lt GA.out)).trans GA.out)
  have GM := Lib.hid ((hb.block _ (blk_lt GM.out)).trans GM.out)
  have NR := Lib.hid (NR.out.below hb)
  have MR := Lib.hid (MR.out.below hb)
  have SB := Lib.hid (SB.out.below hb)
  have DX := Lib.hid hd
  clear hd
  clear hb
  have Sgx : Hid (Zd.size = X.size) := by show _ = _; rw [ZdN.out, DX.out.two]
  have Igx := Lib.hid DX.out.info
  have Ogx := Lib.hid DX.out.one
  have GN := Lib.hid (heap_alloc_new w3 (.cells Zd 32))
  have RW := Lib.hid (alloc_setRowT w3 Zd X 32 _ rfl)
  have hb : Below w3.heap.size w3 (w3.alloc (.cells X 32)) := (Below.refl _ _).alloc (Nat.le_refl _) _
  have GX := Lib.hid (heap_alloc_new w3 (.cells X 32))
  have B0 := Lib.hid (B0.out.trans (hb.mono B0.out.size))
  have GA := Lib.hid ((hb.block _ (blk_lt GA.out)).trans GA.out)
  have GM := Lib.hid ((hb.block _ (blk_lt GM.out)).trans GM.out)
  have NR := Lib.hid (NR.out.below hb)
  have MR := Lib.hid (MR.out.below hb)
  have SB := Lib.hid (SB.out.below hb)
  have DX := Lib.hid (DX.out.below hb)
  clear hb
  go_upto_region 4 with (refine wpList_store_row rfl 32 (.tmp 7) (.tmp 37) rfl w3.heap.size X rfl rfl 32 Zd GN.out Igx.out Sgx.out Ogx.out ?_)
  rw [RW.out]
  try simp only [Act.put]
  clear GN RW
  generalize w3.alloc (.cells X 32) = w4 at *
  generalize w3.heap.size = gx at *
  go_wp2_with (refine wpList_load_row rfl 26 (.tmp 4) rfl (w.heap.size + 1) rfl 26 M (0, 0) _ GM.out Try.underlying26 rfl IM.out ?_)
  refine (ACm.out _ MR.out).mono ?_
  rintro e w5 ⟨Y, rfl, hd, hb⟩
  have B0 := Lib.hid (B0.out.trans (hb.mono B0.out.size))
  have GA := Lib.hid ((hb.block _ (blk_lt GA.out)).trans GA.out)
  have GM := Lib.hid ((hb.block _ (blk_lt GM.out)).trans GM.out)
  have NR := Lib.hid (NR.out.below hb)
  have MR := Lib.hid (MR.out.below hb)
  have SB := Lib.hid (SB.out.below hb)
  have DX := Lib.hid (DX.out.below hb)
  have GX := Lib.hid ((hb.block _ (blk_lt GX.out)).trans GX.out)
  have DY := Lib.hid hd
  clear hd
  clear hb
  have Sgy : Hid (Zd.size = Y.size) := by show _ = _; rw [ZdN.out, DY.out.two]
  have Igy := Lib.hid DY.out.info
  have Ogy := Lib.hid DY.out.one
  have GN := Lib.hid (heap_alloc_new w5 (.cells Zd 32))
  have RW := Lib.hid (alloc_setRowT w5 Zd Y 32 _ rfl)
  have hb : Below w5.heap.size w5 (w5.alloc (.cells Y 32)) := (Below.refl _ _).alloc (Nat.le_refl _) _
  have GY := Lib.hid (heap_alloc_new w5 (.cells Y 32))
  have B0 := Lib.hid (B0.out.trans (hb.mono B0.out.size))
  have GA := Lib.hid ((hb.block _ (blk_lt GA.out)).trans GA.out)
  have GM := Lib.hid ((hb.block _ (blk_lt GM.out)).trans GM.out)
  have NR := Lib.hid (NR.out.below hb)
  have MR := Lib.hid (MR.out.below hb)
  have SB := Lib.hid (SB.out.below hb)
  have DX := Lib.hid (DX.out.below hb)
  have GX := Lib.hid ((hb.block _ (blk_lt GX.out)).trans GX.out)
  have DY := Lib.hid (DY.out.below hb)
  clear hb
  go_upto_region 5 with (refine wpList_store_row rfl 32 (.tmp 9) (.tmp 42) rfl w5.heap.size Y rfl rfl 32 Zd GN.out Igy.out Sgy.out Ogy.out ?_)
  rw [RW.out]
  try simp only [Act.put]
  clear GN RW
  generalize w5.alloc (.cells Y 32) = w6 at *
  generalize w5.heap.size = gy at *
  go_wp2_with (refine wpList_load_row rfl 26 (.tmp 3) rfl w.heap.size rfl 26 A (0, 0) _ GA.out Try.underlying26 rfl IA.out ?_)
  refine (WR.out _ _ NR.out).mono ?_
  rintro e w7 ⟨q, rfl, hq, hb⟩
  have B0 := Lib.hid (B0.out.trans (hb.mono B0.out.size))
  have GA := Lib.hid ((hb.block _ (blk_lt GA.out)).trans GA.out)
  have GM := Lib.hid ((hb.block _ (blk_lt GM.out)).trans GM.out)
  have NR := Lib.hid (NR.out.below hb)
  have MR := Lib.hid (MR.out.below hb)
  have SB := Lib.hid (SB.out.below hb)
  have DX := Lib.hid (DX.out.below hb)
  have GX := Lib.hid ((hb.block _ (blk_lt GX.out)).trans GX.out)
  have DY := Lib.hid (DY.out.below hb)
  have GY := Lib.hid ((hb.block _ (blk_lt GY.out)).trans GY.out)
  have SW := Lib.hid hq
  obtain ⟨qx, qc, rfl, qm⟩ := hq.form
  clear hq
  clear hb
  go_upto_region 6 with (fail)
  go_wp2_with (refine wpList_load_met rfl 32 (.tmp 7) rfl gx rfl 32 X (0, 0) _ GX.out Try.underlying32 ⟨_, rfl⟩ Igx.out ?_)
  refine (RC.out _ _ DX.out).mono ?_
  rintro e w8 ⟨rfl, hb⟩
  have B0 := Lib.hid (B0.out.trans (hb.mono B0.out.size))
  have GA := Lib.hid ((hb.block _ (blk_lt GA.out)).trans GA.out)
  have GM := Lib.hid ((hb.block _ (blk_lt GM.out)).trans GM.out)
  have NR := Lib.hid (NR.out.below hb)
  have MR := Lib.hid (MR.out.below hb)
  have SB := Lib.hid (SB.out.below hb)
  have DX := Lib.hid (DX.out.below hb)
  have GX := Lib.hid ((hb.block _ (blk_lt GX.out)).trans GX.out)
  have DY := Lib.hid (DY.out.below hb)
  have GY := Lib.hid ((hb.block _ (blk_lt GY.out)).trans GY.out)
  have SW := Lib.hid (SW.out.below hb)
  clear hb
  go_upto_region 7 with (fail)
  go_wp2_with (refine wpList_load_row rfl 26 (.tmp 3) rfl w.heap.size rfl 26 A (0, 0) _ GA.out Try.underlying26 rfl IA.out ?_)
  refine (RT.out _ _ NR.out).mono ?_
  rintro e w9 ⟨rfl, hb⟩
  have B0 := Lib.hid (B0.out.trans (hb.mono B0.out.size))
  have GA := Lib.hid ((hb.block _ (blk_lt GA.out)).trans GA.out)
  have GM := Lib.hid ((hb.block _ (blk_lt GM.out)).trans GM.out)
  have NR := Lib.hid (NR.out.below hb)
  have MR := Lib.hid (MR.out.below hb)
  have SB := Lib.hid (SB.out.below hb)
  have DX := Lib.hid (DX.out.below hb)
  have GX := Lib.hid ((hb.block _ (blk_lt GX.out)).trans GX.out)
  have DY := Lib.hid (DY.out.below hb)
  have GY := Lib.hid ((hb.block _ (blk_lt GY.out)).trans GY.out)
  have SW := Lib.hid (SW.out.below hb)
  clear hb
  go_upto_region 9 with (fail)
  go_wp2_with (refine wpList_load_row rfl 32 (.tmp 7) rfl gx rfl 32 X (0, 0) _ GX.out Try.underlying32 rfl Igx.out ?_)
  refine (WD.out _ _ DX.out).mono ?_
  rintro e wa ⟨q2, rfl, hq, hb⟩
  have B0 := Lib.hid (B0.out.trans (hb.mono B0.out.size))
  have GA := Lib.hid ((hb.block _ (blk_lt GA.out)).trans GA.out)
  have GM := Lib.hid ((hb.block _ (blk_lt GM.out)).trans GM.out)
  have NR := Lib.hid (NR.out.below hb)
  have MR := Lib.hid (MR.out.below hb)
  have SB := Lib.hid (SB.out.below hb)
  have DX := Lib.hid (DX.out.below hb)
  have GX := Lib.hid ((hb.block _ (blk_lt GX.out)).trans GX.out)
  have DY := Lib.hid (DY.out.below hb)
  have GY := Lib.hid ((hb.block _ (blk_lt GY.out)).trans GY.out)
  have SW := Lib.hid (SW.out.below hb)
  have SWT := Lib.hid hq
  obtain ⟨rx, rc2, rfl, rm⟩ := hq.form
  clear hq
  clear hb
  have s1 := SW.out.str
  have s2 := SWT.out.str
  have e1 : ((strOfNums bn).toList == (strOfNums bn).toList) = true := beq_self_eq_true _
  have e2 : ((strOfNums bn).toList != (strOfNums bn).toList) = false := by simp
  go_upto_region 12 with (fail)
  clear s1 s2 e1 e2
  have NRa := NR
  have MRa := MR
  have SBa := SB
  have DXa := DX
  have DYa := DY
  have GXa := GX
  have GYa := GY
  have GAa := GA
  have GMa := GM
  have B0a := B0
  go_wp2_with fail
  refine (CP.out _ _ SB.out).mono ?_
  rintro e wb ⟨xo, co, rfl, hown, hb⟩
  have B0 := Lib.hid (B0.out.trans (hb.mono B0.out.size))
  have GA := Lib.hid ((hb.block _ (blk_lt GA.out)).trans GA.out)
  have GM := Lib.hid ((hb.block _ (blk_lt GM.out)).trans GM.out)
  have NR := Lib.hid (NR.out.below hb)
  have MR := Lib.hid (MR.out.below hb)
  have SB := Lib.hid (SB.out.below hb)
  have DX := Lib.hid (DX.out.below hb)
  have GX := Lib.hid ((hb.block _ (blk_lt GX.out)).trans GX.out)
  have DY := Lib.hid (DY.out.below hb)
  have GY := Lib.hid ((hb.block _ (blk_lt GY.out)).trans GY.out)
  have SW := Lib.hid (SW.out.below hb)
  have SWT := Lib.hid (SWT.out.below hb)
  have HBC := Lib.hid hb
  have OWN := Lib.hid hown
  clear hown
  clear hb
  go_upto_region 13 with (fail)
  go_wp2_with fail
  have OWNb := OWN
  refine (RF.out _ _ OWN.out.sees).mono ?_
  rintro e wc ⟨U, rfl, hd, hfr, hb⟩
  have B0 := Lib.hid (B0.out.trans (hb.mono B0.out.size))
  have GA := Lib.hid ((hb.block _ (blk_lt GA.out)).trans GA.out)
  have GM := Lib.hid ((hb.block _ (blk_lt GM.out)).trans GM.out)
  have NR := Lib.hid (NR.out.below hb)
  have MR := Lib.hid (MR.out.below hb)
  have SB := Lib.hid (SB.out.below hb)
  have DX := Lib.hid (DX.out.below hb)
  have GX := Lib.hid ((hb.block _ (blk_lt GX.out)).trans GX.out)
  have DY := Lib.hid (DY.out.below hb)
  have GY := Lib.hid ((hb.block _ (blk_lt GY.out)).trans GY.out)
  have SW := Lib.hid (SW.out.below hb)
  have SWT := Lib.hid (SWT.out.below hb)
  have HBC := Lib.hid (HBC.out.trans (hb.mono HBC.out.size))
  have OWN := Lib.hid (OWN.out.below hb)
  have NG := Lib.hid hd
  have FG := Lib.hid hfr
  have OLT : Hid (∀ k, (Value.slice xo xs.length co).ownBlock = some k → k < wb.heap.size) := fun k e => (OWNb.out.2.lt k e).2
  have GUle := Lib.hid hb.size
  clear hd hfr
  clear hb
  have Sgu : Hid (Zn.size = U.size) := by show _ = _; rw [ZnN.out, NG.out.four]
  have Igu := Lib.hid NG.out.info
  have Ogu := Lib.hid NG.out.one
  have GN := Lib.hid (heap_alloc_new wc (.cells Zn 26))
  have RW := Lib.hid (alloc_setRowT wc Zn U 26 _ rfl)
  have hb : Below wc.heap.size wc (wc.alloc (.cells U 26)) := (Below.refl _ _).alloc (Nat.le_refl _) _
  have GU := Lib.hid (heap_alloc_new wc (.cells U 26))
  have B0 := Lib.hid (B0.out.trans (hb.mono B0.out.size))
  have GA := Lib.hid ((hb.block _ (blk_lt GA.out)).trans GA.out)
  have GM := Lib.hid ((hb.block _ (blk_lt GM.out)).trans GM.out)
  have NR := Lib.hid (NR.out.below hb)
  have MR := Lib.hid (MR.out.below hb)
  have SB := Lib.hid (SB.out.below hb)
  have DX := Lib.hid (DX.out.below hb)
  have GX := Lib.hid ((hb.block _ (blk_lt GX.out)).trans GX.out)
  have DY := Lib.hid (DY.out.below hb)
  have GY := Lib.hid ((hb.block _ (blk_lt GY.out)).trans GY.out)
  have SW := Lib.hid (SW.out.below hb)
  have SWT := Lib.hid (SWT.out.below hb)
  have HBC := Lib.hid (HBC.out.trans (hb.mono HBC.out.size))
  have OWN := Lib.hid (OWN.out.below hb)
  have NG := Lib.hid (NG.out.below hb)
  clear hb
  go_upto_region 14 with (refine wpList_store_row rfl 26 (.tmp 17) (.tmp 99) rfl wc.heap.size U rfl rfl 26 Zn GN.out Igu.out Sgu.out Ogu.out ?_)
  rw [RW.out]
  try simp only [Act.put]
  clear GN RW
  generalize wc.alloc (.cells U 26) = wd at *
  generalize wc.heap.size = gu at *
  go_wp2_with fail
  have GUlt : Hid (wb.heap.size ≤ gu) := GUle.out
  have RGU : Hid (∀ k, (Value.slice xo xs.length co).ownBlock = some k → k ≠ gu) := fun k e => by have := OLT.out k e; have := GUlt.out; omega
  refine (show Code.wp _ _ _ _ _ from ?_)
  go_loopw [19] (fun v19 wr => ∃ (i : Nat) (zs : List Int), i ≤ xs.length ∧ v19 = .int .i64 (i : Int) ∧ zs.length = xs.length ∧ Own wr wa.heap.size (.slice xo xs.length co) zs ∧ wd.grownBy wr (Value.slice xo xs.length co).ownBlock ∧ Below wa.heap.size wa wr) (fun v19 _ => xs.length - (intOf v19).toNat)
  case atStart => exact ⟨0, xs, by omega, rfl, rfl, OWN.out, oc.grownBy_refl _ _, HBC.out⟩
  case round =>
    obtain ⟨i, zs, hi, rfl, hzl, hown, hgr, hbc⟩ := hrel
    by_cases hlt : i < xs.length
    · have hii : (i : Int) < (xs.length : Int) := by omega
      obtain ⟨g, rfl, hag, hcell, hfz, hset⟩ := own_set hown (show i < zs.length by omega)
      have hby := hown.1.nth i
      have hx8 := oc.xor8_zero (nth zs i) 255 hby (by decide)
      have hset := hset _ hx8.2
      have HSET := Lib.hid hset
      have HGR := Lib.hid (grown_trans hgr hset.2)
      have HBC2 := Lib.hid (hbc.setCell (p := ⟨g, i, none⟩) hag (.int .u8 (bits .xor .u8 (nth zs i) 255)))
      have k0 := hby.1
      have k1 := hby.2
      have HZL := Lib.hid hzl
      clear hown hgr hbc hset hx8 hby hzl
      go_wp2_with fail
      go_roundw
      case rel => exact ⟨i + 1, zs.set i (bits .xor .u8 (nth zs i) 255), by omega, by go_num, by rw [List.length_set]; exact HZL.out, HSET.out.1, HGR.out, HBC2.out⟩
      case measure => simp [intOf]; omega
    · have hge : ¬ (i : Int) < (xs.length : Int) := by omega
      have HB2 := Lib.hid hbc
      have GU := Lib.hid ((hgr.block _ (blk_lt GU.out) (fun e => RGU.out gu e.symm rfl)).trans GU.out)
      have NG := Lib.hid (NG.out.grown FG.out hgr OLT.out)
      clear hown hgr hbc hzl
      have NR := Lib.hid (NRa.out.below HB2.out)
      have MR := Lib.hid (MRa.out.below HB2.out)
      have SB := Lib.hid (SBa.out.below HB2.out)
      have DX := Lib.hid (DXa.out.below HB2.out)
      have DY := Lib.hid (DYa.out.below HB2.out)
      have GX := Lib.hid ((HB2.out.block _ (blk_lt GXa.out)).trans GXa.out)
      have GY := Lib.hid ((HB2.out.block _ (blk_lt GYa.out)).trans GYa.out)
      have GA := Lib.hid ((HB2.out.block _ (blk_lt GAa.out)).trans GAa.out)
      have GM := Lib.hid ((HB2.out.block _ (blk_lt GMa.out)).trans GMa.out)
      have B0 := Lib.hid (B0a.out.trans (HB2.out.mono B0a.out.size))
      clear NRa MRa SBa DXa DYa GXa GYa GAa GMa B0a
      go_upto_region 18 with (fail)
      go_wp2_with fail
      refine (RDC.out _ _ SB.out).mono ?_
      rintro e we ⟨O, rfl, hd, hb⟩
      have B0 := Lib.hid (B0.out.trans (hb.mono B0.out.size))
      have GA := Lib.hid ((hb.block _ (blk_lt GA.out)).trans GA.out)
      have GM := Lib.hid ((hb.block _ (blk_lt GM.out)).trans GM.out)
      have NR := Lib.hid (NR.out.below hb)
      have MR := Lib.hid (MR.out.below hb)
      have SB := Lib.hid (SB.out.below hb)
      have DX := Lib.hid (DX.out.below hb)
      have GX := Lib.hid ((hb.block _ (blk_lt GX.out)).trans GX.out)
      have DY := Lib.hid (DY.out.below hb)
      have GY := Lib.hid ((hb.block _ (blk_lt GY.out)).trans GY.out)
      have NG := Lib.hid (NG.out.below hb)
      have GU := Lib.hid ((hb.block _ (blk_lt GU.out)).trans GU.out)
      have DZ := Lib.hid hd
      clear hd
      clear hb
      have Sgz : Hid (Zd.size = O.size) := by show _ = _; rw [ZdN.out, DZ.out.two]
      have Igz := Lib.hid DZ.out.info
      have Ogz := Lib.hid DZ.out.one
      have GN := Lib.hid (heap_alloc_new we (.cells Zd 32))
      have RW := Lib.hid (alloc_setRowT we Zd O 32 _ rfl)
      have hb : Below we.heap.size we (we.alloc (.cells O 32)) := (Below.refl _ _).alloc (Nat.le_refl _) _
      have GZ := Lib.hid (heap_alloc_new we (.cells O 32))
      have B0 := Lib.hid (B0.out.trans (hb.mono B0.out.size))
      have GA := Lib.hid ((hb.block _ (blk_lt GA.out)).trans GA.out)
      have GM := Lib.hid ((hb.block _ (blk_lt GM.out)).trans GM.out)
      have NR := Lib.hid (NR.out.below hb)
      have MR := Lib.hid (MR.out.below hb)
      have SB := Lib.hid (SB.out.below hb)
      have DX := Lib.hid (DX.out.below hb)
      have GX := Lib.hid ((hb.block _ (blk_lt GX.out)).trans GX.out)
      have DY := Lib.hid (DY.out.below hb)
      have GY := Lib.hid ((hb.block _ (blk_lt GY.out)).trans GY.out)
      have NG := Lib.hid (NG.out.below hb)
      have GU := Lib.hid ((hb.block _ (blk_lt GU.out)).trans GU.out)
      have DZ := Lib.hid (DZ.out.below hb)
      clear hb
      go_upto_region 19 with (refine wpList_store_row rfl 32 (.tmp 20) (.tmp 118) rfl we.heap.size O rfl rfl 32 Zd GN.out Igz.out Sgz.out Ogz.out ?_)
      rw [RW.out]
      try simp only [Act.put]
      clear GN RW
      generalize we.alloc (.cells O 32) = wf at *
      generalize we.heap.size = gz at *
      go_wp2_with (first | (refine wpList_load_met rfl 26 (.tmp 17) rfl gu rfl 26 U (0, 0) _ GU.out Try.underlying26 ⟨_, rfl⟩ Igu.out ?_) | (refine wpList_load_met rfl 32 (.tmp 20) rfl gz rfl 32 O (0, 0) _ GZ.out Try.underlying32 ⟨_, rfl⟩ Igz.out ?_))
      refine (SLC.out _ _ _ NG.out DZ.out).mono ?_
      rintro e wg ⟨rfl, hb⟩
      have B0 := Lib.hid (B0.out.trans (hb.mono B0.out.size))
      have GA := Lib.hid ((hb.block _ (blk_lt GA.out)).trans GA.out)
      have GM := Lib.hid ((hb.block _ (blk_lt GM.out)).trans GM.out)
      have NR := Lib.hid (NR.out.below hb)
      have MR := Lib.hid (MR.out.below hb)
      have SB := Lib.hid (SB.out.below hb)
      have DX := Lib.hid (DX.out.below hb)
      have GX := Lib.hid ((hb.block _ (blk_lt GX.out)).trans GX.out)
      have DY := Lib.hid (DY.out.below hb)
      have GY := Lib.hid ((hb.block _ (blk_lt GY.out)).trans GY.out)
      have NG := Lib.hid (NG.out.below hb)
      have GU := Lib.hid ((hb.block _ (blk_lt GU.out)).trans GU.out)
      have DZ := Lib.hid (DZ.out.below hb)
      have GZ := Lib.hid ((hb.block _ (blk_lt GZ.out)).trans GZ.out)
      clear hb
      go_upto_region 21 with (fail)
      cases kb with
      | false =>
        refine wp_region_held_drew (S := fun W => Below wg.heap.size wg W) (by kernel_rfl) ((Below.refl _ _).drew) (fun hS => ?_)
        have hb0 : Below wg.heap.size wg wg.drew := (Below.refl _ _).drew
        have qB0 := B0.out.trans (hb0.mono B0.out.size)
        clear hb0 B0
        generalize wg.drew = Wzs at hS qB0 ⊢
        have B0 := Lib.hid qB0
        clear qB0
        refine wpAnyH_ready (rs := [0]) (by kernel_rfl) (by simp) ?_
        refine' (AllReadyH.cons ?hoc0z (fun K hK => ?stc0z) AllReadyH.nil)
        case hoc0z => (simp only [List.getElem?_toArray, List.getElem?_cons_zero]; rfl)
        go_simp
        refine (AL.out Wzs).mono ?_
        rintro e Wzx0 ⟨rfl, hb⟩
        have B0 := Lib.hid (B0.out.trans (hb.mono B0.out.size))
        go_wp2_with fail
        refine hK.out _ _ (hS.trans (hb.mono hS.size)) (fun hHeld => ?_)
        clear hK K
        try simp only [Act.put, List.setIfInBounds_toArray, List.set_cons_succ, List.set_cons_zero]
        clear hS
        have hS := hHeld
        clear hHeld
        clear hb
        refine' wpAnyH_take (i := 1) ?h1x1zx0 ?hsx1zx0 ?hfx1zx0 ?hrx1zx0 ?hQx1zx0 (Or.inl ⟨?hwx1zx0, ?hyx1zx0⟩) hS ?restx1zx0
        case h1x1zx0 => (simp only [List.getElem?_toArray, List.getElem?_cons_succ, List.getElem?_cons_zero]; rfl)
        case hsx1zx0 | hfx1zx0 | hrx1zx0 => kernel_rfl
        case hQx1zx0 => exact fun _ _ _ h => h
        case hwx1zx0 => rfl
        case hyx1zx0 =>
          intro W hW
          go_simp
          try with_reducible rfl
        simp only [Act.put, List.setIfInBounds_toArray, List.set_cons_succ, List.set_cons_zero]
        refine' wpAnyH_take (i := 2) ?h1x2zx0 ?hsx2zx0 ?hfx2zx0 ?hrx2zx0 ?hQx2zx0 (Or.inl ⟨?hwx2zx0, ?hyx2zx0⟩) hS ?restx2zx0
        case h1x2zx0 => (simp only [List.getElem?_toArray, List.getElem?_cons_succ, List.getElem?_cons_zero]; rfl)
        case hsx2zx0 | hfx2zx0 | hrx2zx0 => kernel_rfl
        case hQx2zx0 => exact fun _ _ _ h => h
        case hwx2zx0 => rfl
        case hyx2zx0 =>
          intro W hW
          go_simp
          try with_reducible rfl
        simp only [Act.put, List.setIfInBounds_toArray, List.set_cons_succ, List.set_cons_zero]
        refine' wpAnyH_take (i := 3) ?h1x3zx0 ?hsx3zx0 ?hfx3zx0 ?hrx3zx0 ?hQx3zx0 (Or.inl ⟨?hwx3zx0, ?hyx3zx0⟩) hS ?restx3zx0
        case h1x3zx0 => (simp only [List.getElem?_toArray, List.getElem?_cons_succ, List.getElem?_cons_zero]; rfl)
        case hsx3zx0 | hfx3zx0 | hrx3zx0 => kernel_rfl
        case hQx3zx0 => exact fun _ _ _ h => h
        case hwx3zx0 => rfl
        case hyx3zx0 =>
          intro W hW
          go_simp
          try with_reducible rfl
        simp only [Act.put, List.setIfInBounds_toArray, List.set_cons_succ, List.set_cons_zero]
        refine' wpAnyH_take (i := 4) ?h1x4zx0 ?hsx4zx0 ?hfx4zx0 ?hrx4zx0 ?hQx4zx0 (Or.inl ⟨?hwx4zx0, ?hyx4zx0⟩) hS ?restx4zx0
        case h1x4zx0 => (simp only [List.getElem?_toArray, List.getElem?_cons_succ, List.getElem?_cons_zero]; rfl)
        case hsx4zx0 | hfx4zx0 | hrx4zx0 => kernel_rfl
        case hQx4zx0 => exact fun _ _ _ h => h
        case hwx4zx0 => rfl
        case hyx4zx0 =>
          intro W hW
          go_simp
          try with_reducible rfl
        simp only [Act.put, List.setIfInBounds_toArray, List.set_cons_succ, List.set_cons_zero]
        refine' wpAnyH_take (i := 5) ?h1x5zx0 ?hsx5zx0 ?hfx5zx0 ?hrx5zx0 ?hQx5zx0 (Or.inl ⟨?hwx5zx0, ?hyx5zx0⟩) hS ?restx5zx0
        case h1x5zx0 => (simp only [List.getElem?_toArray, List.getElem?_cons_succ, List.getElem?_cons_zero]; rfl)
        case hsx5zx0 | hfx5zx0 | hrx5zx0 => kernel_rfl
        case hQx5zx0 => exact fun _ _ _ h => h
        case hwx5zx0 => rfl
        case hyx5zx0 =>
          intro W hW
          go_simp
          try with_reducible rfl
        simp only [Act.put, List.setIfInBounds_toArray, List.set_cons_succ, List.set_cons_zero]
        refine' wpAnyH_take (i := 6) ?h1x6zx0 ?hsx6zx0 ?hfx6zx0 ?hrx6zx0 ?hQx6zx0 (Or.inl ⟨?hwx6zx0, ?hyx6zx0⟩) hS ?restx6zx0
        case h1x6zx0 => (simp only [List.getElem?_toArray, List.getElem?_cons_succ, List.getElem?_cons_zero]; rfl)
        case hsx6zx0 | hfx6zx0 | hrx6zx0 => kernel_rfl
        case hQx6zx0 => exact fun _ _ _ h => h
        case hwx6zx0 => rfl
        case hyx6zx0 =>
          intro W hW
          go_simp
          try with_reducible rfl
        simp only [Act.put, List.setIfInBounds_toArray, List.set_cons_succ, List.set_cons_zero]
        refine' wpAnyH_take (i := 7) ?h1x7zx0 ?hsx7zx0 ?hfx7zx0 ?hrx7zx0 ?hQx7zx0 (Or.inl ⟨?hwx7zx0, ?hyx7zx0⟩) hS ?restx7zx0
        case h1x7zx0 => (simp only [List.getElem?_toArray, List.getElem?_cons_succ, List.getElem?_cons_zero]; rfl)
        case hsx7zx0 | hfx7zx0 | hrx7zx0 => kernel_rfl
        case hQx7zx0 => exact fun _ _ _ h => h
        case hwx7zx0 => rfl
        case hyx7zx0 =>
          intro W hW
          go_simp
          try with_reducible rfl
        simp only [Act.put, List.setIfInBounds_toArray, List.set_cons_succ, List.set_cons_zero]
        refine' wpAnyH_take (i := 8) ?h1x8zx0 ?hsx8zx0 ?hfx8zx0 ?hrx8zx0 ?hQx8zx0 (Or.inl ⟨?hwx8zx0, ?hyx8zx0⟩) hS ?restx8zx0
        case h1x8zx0 => (simp only [List.getElem?_toArray, List.getElem?_cons_succ, List.getElem?_cons_zero]; rfl)
        case hsx8zx0 | hfx8zx0 | hrx8zx0 => kernel_rfl
        case hQx8zx0 => exact fun _ _ _ h => h
        case hwx8zx0 => rfl
        case hyx8zx0 =>
          intro W hW
          go_simp
          try with_reducible rfl
        simp only [Act.put, List.setIfInBounds_toArray, List.set_cons_succ, List.set_cons_zero]
        refine' wpAnyH_take (i := 9) ?h1x9zx0 ?hsx9zx0 ?hfx9zx0 ?hrx9zx0 ?hQx9zx0 (Or.inr ⟨?hwx9zx0, rfl⟩) hS ?restx9zx0
        case h1x9zx0 => (simp only [List.getElem?_toArray, List.getElem?_cons_succ, List.getElem?_cons_zero]; rfl)
        case hsx9zx0 | hfx9zx0 | hrx9zx0 => kernel_rfl
        case hQx9zx0 => exact fun _ _ _ h => h
        case hwx9zx0 => rfl
        simp only [Act.put, List.setIfInBounds_toArray, List.set_cons_succ, List.set_cons_zero]
        refine' wpAnyH_take (i := 10) ?h1x10zx0 ?hsx10zx0 ?hfx10zx0 ?hrx10zx0 ?hQx10zx0 (Or.inr ⟨?hwx10zx0, rfl⟩) hS ?restx10zx0
        case h1x10zx0 => (simp only [List.getElem?_toArray, List.getElem?_cons_succ, List.getElem?_cons_zero]; rfl)
        case hsx10zx0 | hfx10zx0 | hrx10zx0 => kernel_rfl
        case hQx10zx0 => exact fun _ _ _ h => h
        case hwx10zx0 => rfl
        simp only [Act.put, List.setIfInBounds_toArray, List.set_cons_succ, List.set_cons_zero]
        refine' wpAnyH_take (i := 11) ?h1x11zx0 ?hsx11zx0 ?hfx11zx0 ?hrx11zx0 ?hQx11zx0 (Or.inr ⟨?hwx11zx0, rfl⟩) hS ?restx11zx0
        case h1x11zx0 => (simp only [List.getElem?_toArray, List.getElem?_cons_succ, List.getElem?_cons_zero]; rfl)
        case hsx11zx0 | hfx11zx0 | hrx11zx0 => kernel_rfl
        case hQx11zx0 => exact fun _ _ _ h => h
        case hwx11zx0 => rfl
        simp only [Act.put, List.setIfInBounds_toArray, List.set_cons_succ, List.set_cons_zero]
        refine' wpAnyH_take (i := 12) ?h1x12zx0 ?hsx12zx0 ?hfx12zx0 ?hrx12zx0 ?hQx12zx0 (Or.inr ⟨?hwx12zx0, rfl⟩) hS ?restx12zx0
        case h1x12zx0 => (simp only [List.getElem?_toArray, List.getElem?_cons_succ, List.getElem?_cons_zero]; rfl)
        case hsx12zx0 | hfx12zx0 | hrx12zx0 => kernel_rfl
        case hQx12zx0 => exact fun _ _ _ h => h
        case hwx12zx0 => rfl
        simp only [Act.put, List.setIfInBounds_toArray, List.set_cons_succ, List.set_cons_zero]
        refine' wpAnyH_take (i := 13) ?h1x13zx0 ?hsx13zx0 ?hfx13zx0 ?hrx13zx0 ?hQx13zx0 (Or.inr ⟨?hwx13zx0, rfl⟩) hS ?restx13zx0
        case h1x13zx0 => (simp only [List.getElem?_toArray, List.getElem?_cons_succ, List.getElem?_cons_zero]; rfl)
        case hsx13zx0 | hfx13zx0 | hrx13zx0 => kernel_rfl
        case hQx13zx0 => exact fun _ _ _ h => h
        case hwx13zx0 => rfl
        simp only [Act.put, List.setIfInBounds_toArray, List.set_cons_succ, List.set_cons_zero]
        refine' wpAnyH_take (i := 14) ?h1x14zx0 ?hsx14zx0 ?hfx14zx0 ?hrx14zx0 ?hQx14zx0 (Or.inr ⟨?hwx14zx0, rfl⟩) hS ?restx14zx0
        case h1x14zx0 => (simp only [List.getElem?_toArray, List.getElem?_cons_succ, List.getElem?_cons_zero]; rfl)
        case hsx14zx0 | hfx14zx0 | hrx14zx0 => kernel_rfl
        case hQx14zx0 => exact fun _ _ _ h => h
        case hwx14zx0 => rfl
        simp only [Act.put, List.setIfInBounds_toArray, List.set_cons_succ, List.set_cons_zero]
        refine' wpAnyH_take (i := 15) ?h1x15zx0 ?hsx15zx0 ?hfx15zx0 ?hrx15zx0 ?hQx15zx0 (Or.inr ⟨?hwx15zx0, rfl⟩) hS ?restx15zx0
        case h1x15zx0 => (simp only [List.getElem?_toArray, List.getElem?_cons_succ, List.getElem?_cons_zero]; rfl)
        case hsx15zx0 | hfx15zx0 | hrx15zx0 => kernel_rfl
        case hQx15zx0 => exact fun _ _ _ h => h
        case hwx15zx0 => rfl
        simp only [Act.put, List.setIfInBounds_toArray, List.set_cons_succ, List.set_cons_zero]
        refine' wpAnyH_take (i := 16) ?h1x16zx0 ?hsx16zx0 ?hfx16zx0 ?hrx16zx0 ?hQx16zx0 (Or.inl ⟨?hwx16zx0, ?hyx16zx0⟩) hS ?restx16zx0
        case h1x16zx0 => (simp only [List.getElem?_toArray, List.getElem?_cons_succ, List.getElem?_cons_zero]; rfl)
        case hsx16zx0 | hfx16zx0 | hrx16zx0 => kernel_rfl
        case hQx16zx0 => exact fun _ _ _ h => h
        case hwx16zx0 => rfl
        case hyx16zx0 =>
          intro W hW
          go_simp
          try with_reducible rfl
        simp only [Act.put, List.setIfInBounds_toArray, List.set_cons_succ, List.set_cons_zero]
        refine' wpAnyH_take (i := 17) ?h1x17zx0 ?hsx17zx0 ?hfx17zx0 ?hrx17zx0 ?hQx17zx0 (Or.inl ⟨?hwx17zx0, ?hyx17zx0⟩) hS ?restx17zx0
        case h1x17zx0 => (simp only [List.getElem?_toArray, List.getElem?_cons_succ, List.getElem?_cons_zero]; rfl)
        case hsx17zx0 | hfx17zx0 | hrx17zx0 => kernel_rfl
        case hQx17zx0 => exact fun _ _ _ h => h
        case hwx17zx0 => rfl
        case hyx17zx0 =>
          intro W hW
          go_simp
          try with_reducible rfl
        simp only [Act.put, List.setIfInBounds_toArray, List.set_cons_succ, List.set_cons_zero]
        refine' wpAnyH_take (i := 18) ?h1x18zx0 ?hsx18zx0 ?hfx18zx0 ?hrx18zx0 ?hQx18zx0 (Or.inl ⟨?hwx18zx0, ?hyx18zx0⟩) hS ?restx18zx0
        case h1x18zx0 => (simp only [List.getElem?_toArray, List.getElem?_cons_succ, List.getElem?_cons_zero]; rfl)
        case hsx18zx0 | hfx18zx0 | hrx18zx0 => kernel_rfl
        case hQx18zx0 => exact fun _ _ _ h => h
        case hwx18zx0 => rfl
        case hyx18zx0 =>
          intro W hW
          go_simp
          try with_reducible rfl
        simp only [Act.put, List.setIfInBounds_toArray, List.set_cons_succ, List.set_cons_zero]
        refine wpAnyH_done (by kernel_rfl) ?_ _
        go_wp2_with fail
        go_ret
        exact ⟨rfl, B0.out⟩
      | true =>
        refine wp_region_held_drew (S := fun W => Below wg.heap.size wg W ∧ W.heap[w.heap.size]? = some (.cells A 26 (0, 0)) ∧ W.heap[(w.heap.size + 1)]? = some (.cells M 26 (0, 0)) ∧ W.heap[gx]? = some (.cells X 32 (0, 0)) ∧ W.heap[gy]? = some (.cells Y 32 (0, 0))) (by kernel_rfl) (⟨(Below.refl _ _).drew, GA.out, GM.out, GX.out, GY.out⟩) (fun hS => ?_)
        have hb0 : Below wg.heap.size wg wg.drew := (Below.refl _ _).drew
        have qB0 := B0.out.trans (hb0.mono B0.out.size)
        have qNR := NR.out.below hb0
        have qMR := MR.out.below hb0
        have qDX := DX.out.below hb0
        have qDY := DY.out.below hb0
        clear hb0 B0 NR MR DX DY
        generalize wg.drew = Wys at hS qB0 qNR qMR qDX qDY ⊢
        have B0 := Lib.hid qB0
        have NR := Lib.hid qNR
        have MR := Lib.hid qMR
        have DX := Lib.hid qDX
        have DY := Lib.hid qDY
        clear qB0 qNR qMR qDX qDY
        refine wpAnyH_ready (rs := [0]) (by kernel_rfl) (by simp) ?_
        refine' (AllReadyH.cons ?hoc0y (fun K hK => ?stc0y) AllReadyH.nil)
        case hoc0y => (simp only [List.getElem?_toArray, List.getElem?_cons_zero]; rfl)
        go_simp
        refine (AL.out Wys).mono ?_
        rintro e Wyx0 ⟨rfl, hb⟩
        have B0 := Lib.hid (B0.out.trans (hb.mono B0.out.size))
        have NR := Lib.hid (NR.out.below hb)
        have MR := Lib.hid (MR.out.below hb)
        have DX := Lib.hid (DX.out.below hb)
        have DY := Lib.hid (DY.out.below hb)
        go_wp2_with fail
        refine hK.out _ _ (⟨hS.1.trans (hb.mono hS.1.size), (hb.block _ (blk_lt hS.2.1)).trans hS.2.1, (hb.block _ (blk_lt hS.2.2.1)).trans hS.2.2.1, (hb.block _ (blk_lt hS.2.2.2.1)).trans hS.2.2.2.1, (hb.block _ (blk_lt hS.2.2.2.2)).trans hS.2.2.2.2⟩) (fun hHeld => ?_)
        clear hK K
        try simp only [Act.put, List.setIfInBounds_toArray, List.set_cons_succ, List.set_cons_zero]
        clear hS
        have hS := hHeld
        clear hHeld
        clear hb
        refine' wpAnyH_take (i := 1) ?h1x1yx0 ?hsx1yx0 ?hfx1yx0 ?hrx1yx0 ?hQx1yx0 (Or.inl ⟨?hwx1yx0, ?hyx1yx0⟩) hS ?restx1yx0
        case h1x1yx0 => (simp only [List.getElem?_toArray, List.getElem?_cons_succ, List.getElem?_cons_zero]; rfl)
        case hsx1yx0 | hfx1yx0 | hrx1yx0 => kernel_rfl
        case hQx1yx0 => exact fun _ _ _ h => h
        case hwx1yx0 => rfl
        case hyx1yx0 =>
          intro W hW
          go_simp
          try with_reducible rfl
        simp only [Act.put, List.setIfInBounds_toArray, List.set_cons_succ, List.set_cons_zero]
        refine' wpAnyH_take (i := 2) ?h1x2yx0 ?hsx2yx0 ?hfx2yx0 ?hrx2yx0 ?hQx2yx0 (Or.inl ⟨?hwx2yx0, ?hyx2yx0⟩) hS ?restx2yx0
        case h1x2yx0 => (simp only [List.getElem?_toArray, List.getElem?_cons_succ, List.getElem?_cons_zero]; rfl)
        case hsx2yx0 | hfx2yx0 | hrx2yx0 => kernel_rfl
        case hQx2yx0 => exact fun _ _ _ h => h
        case hwx2yx0 => rfl
        case hyx2yx0 =>
          intro W hW
          go_simp
          try with_reducible rfl
        simp only [Act.put, List.setIfInBounds_toArray, List.set_cons_succ, List.set_cons_zero]
        refine' wpAnyH_take (i := 3) ?h1x3yx0 ?hsx3yx0 ?hfx3yx0 ?hrx3yx0 ?hQx3yx0 (Or.inl ⟨?hwx3yx0, ?hyx3yx0⟩) hS ?restx3yx0
        case h1x3yx0 => (simp only [List.getElem?_toArray, List.getElem?_cons_succ, List.getElem?_cons_zero]; rfl)
        case hsx3yx0 | hfx3yx0 | hrx3yx0 => kernel_rfl
        case hQx3yx0 => exact fun _ _ _ h => h
        case hwx3yx0 => rfl
        case hyx3yx0 =>
          intro W hW
          go_simp
          try with_reducible rfl
        simp only [Act.put, List.setIfInBounds_toArray, List.set_cons_succ, List.set_cons_zero]
        refine' wpAnyH_take (i := 4) ?h1x4yx0 ?hsx4yx0 ?hfx4yx0 ?hrx4yx0 ?hQx4yx0 (Or.inl ⟨?hwx4yx0, ?hyx4yx0⟩) hS ?restx4yx0
        case h1x4yx0 => (simp only [List.getElem?_toArray, List.getElem?_cons_succ, List.getElem?_cons_zero]; rfl)
        case hsx4yx0 | hfx4yx0 | hrx4yx0 => kernel_rfl
        case hQx4yx0 => exact fun _ _ _ h => h
        case hwx4yx0 => rfl
        case hyx4yx0 =>
          intro W hW
          go_simp
          try with_reducible rfl
        simp only [Act.put, List.setIfInBounds_toArray, List.set_cons_succ, List.set_cons_zero]
        refine' wpAnyH_take (i := 5) ?h1x5yx0 ?hsx5yx0 ?hfx5yx0 ?hrx5yx0 ?hQx5yx0 (Or.inl ⟨?hwx5yx0, ?hyx5yx0⟩) hS ?restx5yx0
        case h1x5yx0 => (simp only [List.getElem?_toArray, List.getElem?_cons_succ, List.getElem?_cons_zero]; rfl)
        case hsx5yx0 | hfx5yx0 | hrx5yx0 => kernel_rfl
        case hQx5yx0 => exact fun _ _ _ h => h
        case hwx5yx0 => rfl
        case hyx5yx0 =>
          intro W hW
          go_simp
          try with_reducible rfl
        simp only [Act.put, List.setIfInBounds_toArray, List.set_cons_succ, List.set_cons_zero]
        refine' wpAnyH_take (i := 6) ?h1x6yx0 ?hsx6yx0 ?hfx6yx0 ?hrx6yx0 ?hQx6yx0 (Or.inl ⟨?hwx6yx0, ?hyx6yx0⟩) hS ?restx6yx0
        case h1x6yx0 => (simp only [List.getElem?_toArray, List.getElem?_cons_succ, List.getElem?_cons_zero]; rfl)
        case hsx6yx0 | hfx6yx0 | hrx6yx0 => kernel_rfl
        case hQx6yx0 => exact fun _ _ _ h => h
        case hwx6yx0 => rfl
        case hyx6yx0 =>
          intro W hW
          go_simp
          try with_reducible rfl
        simp only [Act.put, List.setIfInBounds_toArray, List.set_cons_succ, List.set_cons_zero]
        refine' wpAnyH_take (i := 7) ?h1x7yx0 ?hsx7yx0 ?hfx7yx0 ?hrx7yx0 ?hQx7yx0 (Or.inl ⟨?hwx7yx0, ?hyx7yx0⟩) hS ?restx7yx0
        case h1x7yx0 => (simp only [List.getElem?_toArray, List.getElem?_cons_succ, List.getElem?_cons_zero]; rfl)
        case hsx7yx0 | hfx7yx0 | hrx7yx0 => kernel_rfl
        case hQx7yx0 => exact fun _ _ _ h => h
        case hwx7yx0 => rfl
        case hyx7yx0 =>
          intro W hW
          go_simp
          try with_reducible rfl
        simp only [Act.put, List.setIfInBounds_toArray, List.set_cons_succ, List.set_cons_zero]
        refine' wpAnyH_take (i := 8) ?h1x8yx0 ?hsx8yx0 ?hfx8yx0 ?hrx8yx0 ?hQx8yx0 (Or.inl ⟨?hwx8yx0, ?hyx8yx0⟩) hS ?restx8yx0
        case h1x8yx0 => (simp only [List.getElem?_toArray, List.getElem?_cons_succ, List.getElem?_cons_zero]; rfl)
        case hsx8yx0 | hfx8yx0 | hrx8yx0 => kernel_rfl
        case hQx8yx0 => exact fun _ _ _ h => h
        case hwx8yx0 => rfl
        case hyx8yx0 =>
          intro W hW
          go_simp
          try with_reducible rfl
        simp only [Act.put, List.setIfInBounds_toArray, List.set_cons_succ, List.set_cons_zero]
        refine' wpAnyH_take (i := 9) ?h1x9yx0 ?hsx9yx0 ?hfx9yx0 ?hrx9yx0 ?hQx9yx0 (yieldsIf_load_at ?hwx9yx0 26 (.tmp 3) ?hopx9yx0 w.heap.size 0 rfl A _ (fun W hW => range_row hW.2.1) Try.underlying26 rfl ?hix9yx0) hS ?restx9yx0
        case h1x9yx0 => (simp only [List.getElem?_toArray, List.getElem?_cons_succ, List.getElem?_cons_zero]; rfl)
        case hopx9yx0 => rfl
        case hsx9yx0 | hfx9yx0 | hrx9yx0 => kernel_rfl
        case hQx9yx0 => exact fun _ _ _ h => h
        case hwx9yx0 => rfl
        case hix9yx0 => exact IA.out
        simp only [Act.put, List.setIfInBounds_toArray, List.set_cons_succ, List.set_cons_zero]
        refine' wpAnyH_take (i := 10) ?h1x10yx0 ?hsx10yx0 ?hfx10yx0 ?hrx10yx0 ?hQx10yx0 (yieldsIf_load_at ?hwx10yx0 26 (.tmp 4) ?hopx10yx0 (w.heap.size + 1) 0 rfl M _ (fun W hW => range_row hW.2.2.1) Try.underlying26 rfl ?hix10yx0) hS ?restx10yx0
        case h1x10yx0 => (simp only [List.getElem?_toArray, List.getElem?_cons_succ, List.getElem?_cons_zero]; rfl)
        case hopx10yx0 => rfl
        case hsx10yx0 | hfx10yx0 | hrx10yx0 => kernel_rfl
        case hQx10yx0 => exact fun _ _ _ h => h
        case hwx10yx0 => rfl
        case hix10yx0 => exact IM.out
        simp only [Act.put, List.setIfInBounds_toArray, List.set_cons_succ, List.set_cons_zero]
        refine' wpAnyH_take (i := 12) ?h1x12yx0 ?hsx12yx0 ?hfx12yx0 ?hrx12yx0 ?hQx12yx0 (yieldsIf_load_at ?hwx12yx0 32 (.tmp 7) ?hopx12yx0 gx 0 rfl X _ (fun W hW => range_row hW.2.2.2.1) Try.underlying32 rfl ?hix12yx0) hS ?restx12yx0
        case h1x12yx0 => (simp only [List.getElem?_toArray, List.getElem?_cons_succ, List.getElem?_cons_zero]; rfl)
        case hopx12yx0 => rfl
        case hsx12yx0 | hfx12yx0 | hrx12yx0 => kernel_rfl
        case hQx12yx0 => exact fun _ _ _ h => h
        case hwx12yx0 => rfl
        case hix12yx0 => exact Igx.out
        simp only [Act.put, List.setIfInBounds_toArray, List.set_cons_succ, List.set_cons_zero]
        refine' wpAnyH_take (i := 13) ?h1x13yx0 ?hsx13yx0 ?hfx13yx0 ?hrx13yx0 ?hQx13yx0 (yieldsIf_load_at ?hwx13yx0 32 (.tmp 9) ?hopx13yx0 gy 0 rfl Y _ (fun W hW => range_row hW.2.2.2.2) Try.underlying32 rfl ?hix13yx0) hS ?restx13yx0
        case h1x13yx0 => (simp only [List.getElem?_toArray, List.getElem?_cons_succ, List.getElem?_cons_zero]; rfl)
        case hopx13yx0 => rfl
        case hsx13yx0 | hfx13yx0 | hrx13yx0 => kernel_rfl
        case hQx13yx0 => exact fun _ _ _ h => h
        case hwx13yx0 => rfl
        case hix13yx0 => exact Igy.out
        simp only [Act.put, List.setIfInBounds_toArray, List.set_cons_succ, List.set_cons_zero]
        refine wpAnyH_ready (rs := [11]) (by kernel_rfl) (by simp) ?_
        refine' (AllReadyH.cons ?hoc11yx0 (fun K hK => ?stc11yx0) AllReadyH.nil)
        case hoc11yx0 => (simp only [List.getElem?_toArray, List.getElem?_cons_succ, List.getElem?_cons_zero]; rfl)
        go_simp
        refine (SNM.out Wyx0 NR.out MR.out).mono ?_
        rintro e Wyx0x11 ⟨rfl, hb⟩
        have B0 := Lib.hid (B0.out.trans (hb.mono B0.out.size))
        have NR := Lib.hid (NR.out.below hb)
        have MR := Lib.hid (MR.out.below hb)
        have DX := Lib.hid (DX.out.below hb)
        have DY := Lib.hid (DY.out.below hb)
        go_wp2_with fail
        refine hK.out _ _ (⟨hS.1.trans (hb.mono hS.1.size), (hb.block _ (blk_lt hS.2.1)).trans hS.2.1, (hb.block _ (blk_lt hS.2.2.1)).trans hS.2.2.1, (hb.block _ (blk_lt hS.2.2.2.1)).trans hS.2.2.2.1, (hb.block _ (blk_lt hS.2.2.2.2)).trans hS.2.2.2.2⟩) (fun hHeld => ?_)
        clear hK K
        try simp only [Act.put, List.setIfInBounds_toArray, List.set_cons_succ, List.set_cons_zero]
        clear hS
        have hS := hHeld
        clear hHeld
        clear hb
        refine wpAnyH_ready (rs := [14]) (by kernel_rfl) (by simp) ?_
        refine' (AllReadyH.cons ?hoc14yx0x11 (fun K hK => ?stc14yx0x11) AllReadyH.nil)
        case hoc14yx0x11 => (simp only [List.getElem?_toArray, List.getElem?_cons_succ, List.getElem?_cons_zero]; rfl)
        go_simp
        refine (SXY.out trivial _ _ Wyx0x11 DX.out DY.out).mono ?_
        rintro e Wyx0x11x14 ⟨rfl, hb⟩
        have B0 := Lib.hid (B0.out.trans (hb.mono B0.out.size))
        have NR := Lib.hid (NR.out.below hb)
        have MR := Lib.hid (MR.out.below hb)
        have DX := Lib.hid (DX.out.below hb)
        have DY := Lib.hid (DY.out.below hb)
        go_wp2_with fail
        refine hK.out _ _ (⟨hS.1.trans (hb.mono hS.1.size), (hb.block _ (blk_lt hS.2.1)).trans hS.2.1, (hb.block _ (blk_lt hS.2.2.1)).trans hS.2.2.1, (hb.block _ (blk_lt hS.2.2.2.1)).trans hS.2.2.2.1, (hb.block _ (blk_lt hS.2.2.2.2)).trans hS.2.2.2.2⟩) (fun hHeld => ?_)
        clear hK K
        try simp only [Act.put, List.setIfInBounds_toArray, List.set_cons_succ, List.set_cons_zero]
        clear hS
        have hS := hHeld
        clear hHeld
        clear hb
        refine' wpAnyH_take (i := 15) ?h1x15yx0x11x14 ?hsx15yx0x11x14 ?hfx15yx0x11x14 ?hrx15yx0x11x14 ?hQx15yx0x11x14 (Or.inl ⟨?hwx15yx0x11x14, ?hyx15yx0x11x14⟩) hS ?restx15yx0x11x14
        case h1x15yx0x11x14 => (simp only [List.getElem?_toArray, List.getElem?_cons_succ, List.getElem?_cons_zero]; rfl)
        case hsx15yx0x11x14 | hfx15yx0x11x14 | hrx15yx0x11x14 => kernel_rfl
        case hQx15yx0x11x14 => exact fun _ _ _ h => h
        case hwx15yx0x11x14 => rfl
        case hyx15yx0x11x14 =>
          intro W hW
          go_simp
          try with_reducible rfl
        simp only [Act.put, List.setIfInBounds_toArray, List.set_cons_succ, List.set_cons_zero]
        refine' wpAnyH_take (i := 16) ?h1x16yx0x11x14 ?hsx16yx0x11x14 ?hfx16yx0x11x14 ?hrx16yx0x11x14 ?hQx16yx0x11x14 (Or.inl ⟨?hwx16yx0x11x14, ?hyx16yx0x11x14⟩) hS ?restx16yx0x11x14
        case h1x16yx0x11x14 => (simp only [List.getElem?_toArray, List.getElem?_cons_succ, List.getElem?_cons_zero]; rfl)
        case hsx16yx0x11x14 | hfx16yx0x11x14 | hrx16yx0x11x14 => kernel_rfl
        case hQx16yx0x11x14 => exact fun _ _ _ h => h
        case hwx16yx0x11x14 => rfl
        case hyx16yx0x11x14 =>
          intro W hW
          go_simp
          try with_reducible rfl
        simp only [Act.put, List.setIfInBounds_toArray, List.set_cons_succ, List.set_cons_zero]
        refine' wpAnyH_take (i := 17) ?h1x17yx0x11x14 ?hsx17yx0x11x14 ?hfx17yx0x11x14 ?hrx17yx0x11x14 ?hQx17yx0x11x14 (Or.inl ⟨?hwx17yx0x11x14, ?hyx17yx0x11x14⟩) hS ?restx17yx0x11x14
        case h1x17yx0x11x14 => (simp only [List.getElem?_toArray, List.getElem?_cons_succ, List.getElem?_cons_zero]; rfl)
        case hsx17yx0x11x14 | hfx17yx0x11x14 | hrx17yx0x11x14 => kernel_rfl
        case hQx17yx0x11x14 => exact fun _ _ _ h => h
        case hwx17yx0x11x14 => rfl
        case hyx17yx0x11x14 =>
          intro W hW
          go_simp
          try with_reducible rfl
        simp only [Act.put, List.setIfInBounds_toArray, List.set_cons_succ, List.set_cons_zero]
        refine' wpAnyH_take (i := 18) ?h1x18yx0x11x14 ?hsx18yx0x11x14 ?hfx18yx0x11x14 ?hrx18yx0x11x14 ?hQx18yx0x11x14 (Or.inl ⟨?hwx18yx0x11x14, ?hyx18yx0x11x14⟩) hS ?restx18yx0x11x14
        case h1x18yx0x11x14 => (simp only [List.getElem?_toArray, List.getElem?_cons_succ, List.getElem?_cons_zero]; rfl)
        case hsx18yx0x11x14 | hfx18yx0x11x14 | hrx18yx0x11x14 => kernel_rfl
        case hQx18yx0x11x14 => exact fun _ _ _ h => h
        case hwx18yx0x11x14 => rfl
        case hyx18yx0x11x14 =>
          intro W hW
          go_simp
          try with_reducible rfl
        simp only [Act.put, List.setIfInBounds_toArray, List.set_cons_succ, List.set_cons_zero]
        refine wpAnyH_done (by kernel_rfl) ?_ _
        go_wp2_with fail
        go_ret
        exact ⟨rfl, B0.out⟩
end Go.Proofs.Ytnifaldgofmciaa
