/-
  The walks of NodePuts. Condition: the node reads as one.
-/
import Derived.Test.YtnifaldgofmciaaNeE
namespace Go.Proofs.Ytnifaldgofmciaa
open Go.RowKit
theorem putL_len {α : Type} (l : List α) (i b : Nat) (x : α) (hi : i ≤ l.length) : (putL l i b x).length = i + 1 + (l.length - b) := by
  unfold putL
  simp only [List.length_append, List.length_take, List.length_drop, List.length_singleton]
  omega
theorem putL_lo {l : List Int} {i b : Nat} {x : Int} (hi : i ≤ l.length) {j : Nat} (hj : j < i) : (putL l i b x).getD j 0 = l.getD j 0 := by
  unfold putL
  simp only [List.getD]
  rw [List.append_assoc, List.getElem?_append_left (by rw [List.length_take]; omega), List.getElem?_take_of_lt hj]
theorem putL_at {α : Type} {l : List α} {i b : Nat} {x : α} (hi : i ≤ l.length) : (putL l i b x)[i]? = some x := by
  unfold putL
  rw [List.append_assoc, List.getElem?_append_right (by rw [List.length_take]; omega), List.length_take, Nat.min_eq_left hi, Nat.sub_self]
  rfl
theorem putL_key {l : List Int} {i b : Nat} {x : Int} (hi : i ≤ l.length) : (putL l i b x).getD i 0 = x := by rw [List.getD, putL_at hi]; rfl
theorem putL_hi {l : List Int} {i b : Nat} {x : Int} (hi : i ≤ l.length) {j : Nat} : (putL l i b x).getD (i + 1 + j) 0 = l.getD (b + j) 0 := by
  unfold putL
  simp only [List.getD]
  rw [List.append_assoc, List.getElem?_append_right (by rw [List.length_take]; omega), List.length_take, Nat.min_eq_left hi, show i + 1 + j - i = j + 1 by omega]
  simp
theorem cut_put {α : Type} (l : List α) (i b : Nat) (x : α) (hi : i ≤ l.length) : (putL l i b x).take i ++ [] ++ (putL l i b x).drop (i + 1) = l.take i ++ [] ++ l.drop b := by
  have hl : (l.take i).length = i := by rw [List.length_take]; omega
  have e1 : (putL l i b x).take i = l.take i := by
    unfold putL
    rw [List.append_assoc, List.take_append_of_le_length (by omega), List.take_of_length_le (by omega)]
  have e2 : (putL l i b x).drop (i + 1) = l.drop b := by
    unfold putL
    have : (l.take i ++ [x]).length = i + 1 := by simp [hl]
    rw [← this, List.drop_left]
  rw [e1, e2]
section
variable {ks : List Int} {key : Int} {i : Nat} {th : Bool}
theorem beh_lo (h : FindP ks key i th) : beh i th ≤ ks.length := by
  unfold beh
  cases th with
  | true => exact (h.2.2.1 rfl).1
  | false => exact h.1
theorem beh_hi (hr : risesB ks = true) (h : FindP ks key i th) {j : Nat} (hj : beh i th + j < ks.length) : key < ks.getD (beh i th + j) 0 := by
  cases th with
  | false => exact h.2.2.2 rfl _ (by unfold beh; simp) hj
  | true =>
    have := rises_le hr (i := i) (j := beh i true + j) (by unfold beh; simp; omega) hj
    have := (h.2.2.1 rfl).2
    omega
theorem put_rises (hr : risesB ks = true) (h : FindP ks key i th) : risesB (putL ks i (beh i th) key) = true := by
  have hb := beh_lo h
  refine risesB_yes fun j hj => ?_
  rw [putL_len _ _ _ _ h.1] at hj
  rcases Nat.lt_trichotomy j i with hlt | heq | hgt
  · rw [putL_lo h.1 hlt]
    rcases Nat.lt_or_ge (j + 1) i with h1 | h1
    · rw [putL_lo h.1 h1]
      exact risesB_at hr (by have := h.1; omega)
    · have : j + 1 = i := by omega
      rw [this, putL_key h.1]
      exact h.2.1 j hlt
  · subst heq
    have e := putL_hi (x := key) (b := beh j th) h.1 (j := 0)
    rw [Nat.add_zero] at e
    rw [putL_key h.1, e]
    exact beh_hi hr h (by omega)
  · have e1 := putL_hi (x := key) (b := beh i th) h.1 (j := j - i - 1)
    have e2 := putL_hi (x := key) (b := beh i th) h.1 (j := j - i)
    rw [show i + 1 + (j - i - 1) = j by omega] at e1
    rw [show i + 1 + (j - i) = j + 1 by omega] at e2
    rw [e1, e2]
    have := risesB_at hr (j := beh i th + (j - i - 1)) (by omega)
    rw [show beh i th + (j - i - 1) + 1 = beh i th + (j - i) by omega] at this
    exact this
theorem put_find (h : FindP ks key i th) : FindP (putL ks i (beh i th) key) key i true := by
  refine ⟨by rw [putL_len _ _ _ _ h.1]; omega, fun j hj => by rw [putL_lo h.1 hj]; exact h.2.1 j hj, fun _ => ⟨by rw [putL_len _ _ _ _ h.1]; omega, putL_key h.1⟩, fun e => (by cases e)⟩
theorem cutL_lo (hi : i ≤ ks.length) {b j : Nat} (hj : j < i) : (ks.take i ++ [] ++ ks.drop b).getD j 0 = ks.getD j 0 := by
  simp only [List.getD, List.append_nil]
  rw [List.getElem?_append_left (by rw [List.length_take]; omega), List.getElem?_take_of_lt hj]
theorem cutL_hi (hi : i ≤ ks.length) {b j : Nat} : (ks.take i ++ [] ++ ks.drop b).getD (i + j) 0 = ks.getD (b + j) 0 := by
  simp only [List.getD, List.append_nil]
  rw [List.getElem?_append_right (by rw [List.length_take]; omega), List.length_take, Nat.min_eq_left hi, show i + j - i = j by omega, List.getElem?_drop]
theorem cutL_len (hi : i ≤ ks.length) {b : Nat} : (ks.take i ++ [] ++ ks.drop b).length = i + (ks.length - b) := by
  simp only [List.append_nil, List.length_append, List.length_take, List.length_drop]
  omega
theorem cut_rises (hr : risesB ks = true) (h : FindP ks key i th) : risesB (ks.take i ++ [] ++ ks.drop (beh i th)) = true := by
  have hb := beh_lo h
  refine risesB_yes fun j hj => ?_
  rw [cutL_len h.1] at hj
  rcases Nat.lt_or_ge j i with hlt | hge
  · rw [cutL_lo h.1 hlt]
    rcases Nat.lt_or_ge (j + 1) i with h1 | h1
    · rw [cutL_lo h.1 h1]
      exact risesB_at hr (by have := h.1; omega)
    · have e := cutL_hi (b := beh i th) h.1 (j := 0)
      rw [Nat.add_zero, Nat.add_zero] at e
      have : j + 1 = i := by omega
      rw [this, e]
      exact rises_le hr (by unfold beh; split <;> omega) (by omega)
  · have e1 := cutL_hi (b := beh i th) h.1 (j := j - i)
    have e2 := cutL_hi (b := beh i th) h.1 (j := j - i + 1)
    rw [show i + (j - i) = j by omega] at e1
    rw [show i + (j - i + 1) = j + 1 by omega] at e2
    rw [e1, e2]
    exact risesB_at hr (j := beh i th + (j - i)) (by omega)
theorem cut_find (hr : risesB ks = true) (h : FindP ks key i th) : FindP (ks.take i ++ [] ++ ks.drop (beh i th)) key i false := by
  refine ⟨by rw [cutL_len h.1]; omega, fun j hj => (by rw [cutL_lo h.1 hj]; exact h.2.1 j hj), fun e => (by cases e), fun _ j h1 h2 => ?_⟩
  rw [cutL_len h.1] at h2
  have e := cutL_hi (b := beh i th) h.1 (j := j - i)
  rw [show i + (j - i) = j by omega] at e
  rw [e]
  exact beh_hi hr h (by have := beh_lo h; omega)
end
theorem cutN_put {n : NV} {key : Int} {z : List Int} {i b : Nat} (h1 : i ≤ n.ks.length) (h2 : i ≤ n.vs.length) (h3 : n.qs = []) : cutN (putN n i b key z) i (i + 1) = ⟨true, n.ks.take i ++ [] ++ n.ks.drop b, n.vs.take i ++ [] ++ n.vs.drop b, []⟩ := by
  unfold cutN putN
  simp only
  rw [cut_put _ _ _ _ h1, cut_put _ _ _ _ h2, h3]
  simp
theorem nv_cut {n : NV} {i : Nat} (hl : n.leaf = true) (hq : n.qs = []) : (⟨true, n.ks.take i ++ [] ++ n.ks.drop (beh i false), n.vs.take i ++ [] ++ n.vs.drop (beh i false), []⟩ : NV) = n := by
  obtain ⟨lf, ks, vs, qs⟩ := n
  simp only at hl hq
  subst hl hq
  simp [beh]
set_option maxRecDepth 100000 in
set_option maxHeartbeats 16000000 in
theorem puts_great (A : Array Value) (n : NV) (key : Int) (z : List Int) (w : World) (hv : ND w (.agg A) n) (hA : okA 0 A) (hz1 : z.length = 44) (hg : greatB n = true) : Calls Try.prog 6 #[.agg A, .int .u64 key, .agg (val z).toArray] w (AliveP w) := by
  have IA := Lib.hid hA.info
  have IV := Lib.hid (i54 hz1)
  have AL := Lib.hid alive8
  have GT : Hid (∀ v W, ND W v n → Calls Try.prog 7 #[v] W fun e w' => e = .returned (.bool true) ∧ Below W.heap.size W w') := fun v W h => by have := great v n W h; rw [hg] at this; exact this
  obtain ⟨CV, hCV⟩ : ∃ CV : Array Value, CV = (val z).toArray := ⟨_, rfl⟩
  rw [← hCV] at IV  ⊢
  obtain ⟨W1, hW1⟩ : ∃ W1, W1 = (w.alloc (.cells A 26)).alloc (.cells CV 54) := ⟨_, rfl⟩
  have b0 : Below w.heap.size w (w.alloc (.cells A 26)) := (Below.refl _ _).alloc (Nat.le_refl _) _
  have b1 : Below w.heap.size w W1 := by rw [hW1]; exact b0.alloc (by simp) _
  have GR : Hid (W1.heap[w.heap.size]? = some (.cells A 26 (0, 0))) := by show _ = _; rw [hW1, Below.heap_alloc _ _ _ (by simp)]; exact heap_alloc_new w _
  have GV : Hid (W1.heap[w.heap.size + 1]? = some (.cells CV 54 (0, 0))) := by
    show _ = _
    rw [hW1]
    have := heap_alloc_new (w.alloc (.cells A 26)) (.cells CV 54)
    simpa using this
  have NR := Lib.hid (hv.below b1)
  have B0 := Lib.hid b1
  have HW1 := Lib.hid hW1
  clear hW1 b0 b1 hv hA hz1 hCV hg
  go_enter Try.func6, Try.ntmps6
  go_upto_region 1 with (fail)
  rw [← HW1.out]
  go_wp2_with (refine wpList_load_row rfl 26 (.tmp 3) rfl w.heap.size rfl 26 A (0, 0) _ GR.out Try.underlying26 rfl IA.out ?_)
  refine (GT.out _ _ NR.out).mono ?_
  rintro e w1 ⟨rfl, hb⟩
  have B0 := Lib.hid (B0.out.trans (hb.mono B0.out.size))
  have GR := Lib.hid ((hb.block _ (blk_lt GR.out)).trans GR.out)
  have NR := Lib.hid (NR.out.below hb)
  clear hb
  go_wp2_with fail
  refine (AL.out _).mono ?_
  rintro e w7 ⟨rfl, hb⟩
  have B0 := Lib.hid (B0.out.trans (hb.mono B0.out.size))
  have GR := Lib.hid ((hb.block _ (blk_lt GR.out)).trans GR.out)
  have NR := Lib.hid (NR.out.below hb)
  clear hb
  go_wp2_with fail
  go_ret
  exact ⟨rfl, B0.out⟩
set_option maxRecDepth 100000 in
set_option maxHeartbeats 16000000 in
theorem puts_inner (A : Array Value) (n : NV) (key : Int) (z : List Int) (w : World) (hv : ND w (.agg A) n) (hA : okA 0 A) (hz1 : z.length = 44) (hg : greatB n = false) (hlf : n.leaf = false) : Calls Try.prog 6 #[.agg A, .int .u64 key, .agg (val z).toArray] w (AliveP w) := by
  have IA := Lib.hid hA.info
  have IV := Lib.hid (i54 hz1)
  have AL := Lib.hid alive8
  have GT : Hid (∀ v W, ND W v n → Calls Try.prog 7 #[v] W fun e w' => e = .returned (.bool false) ∧ Below W.heap.size W w') := fun v W h => by have := great v n W h; rw [hg] at this; exact this
  have A0 : Hid (A[0]? = some (.bool false)) := by
    obtain ⟨K, V, Q, e, _⟩ := hv
    injection e with e
    show _ = _
    rw [e, hlf]; rfl
  obtain ⟨CV, hCV⟩ : ∃ CV : Array Value, CV = (val z).toArray := ⟨_, rfl⟩
  rw [← hCV] at IV  ⊢
  obtain ⟨W1, hW1⟩ : ∃ W1, W1 = (w.alloc (.cells A 26)).alloc (.cells CV 54) := ⟨_, rfl⟩
  have b0 : Below w.heap.size w (w.alloc (.cells A 26)) := (Below.refl _ _).alloc (Nat.le_refl _) _
  have b1 : Below w.heap.size w W1 := by rw [hW1]; exact b0.alloc (by simp) _
  have GR : Hid (W1.heap[w.heap.size]? = some (.cells A 26 (0, 0))) := by show _ = _; rw [hW1, Below.heap_alloc _ _ _ (by simp)]; exact heap_alloc_new w _
  have GV : Hid (W1.heap[w.heap.size + 1]? = some (.cells CV 54 (0, 0))) := by
    show _ = _
    rw [hW1]
    have := heap_alloc_new (w.alloc (.cells A 26)) (.cells CV 54)
    simpa using this
  have NR := Lib.hid (hv.below b1)
  have B0 := Lib.hid b1
  have HW1 := Lib.hid hW1
  clear hW1 b0 b1 hv hA hz1 hCV hg hlf
  go_enter Try.func6, Try.ntmps6
  go_upto_region 1 with (fail)
  rw [← HW1.out]
  have cc := (cell_row GR.out 0).trans A0.out
  go_wp2_with (refine wpList_load_row rfl 26 (.tmp 3) rfl w.heap.size rfl 26 A (0, 0) _ GR.out Try.underlying26 rfl IA.out ?_)
  refine (GT.out _ _ NR.out).mono ?_
  rintro e w1 ⟨rfl, hb⟩
  have B0 := Lib.hid (B0.out.trans (hb.mono B0.out.size))
  have GR := Lib.hid ((hb.block _ (blk_lt GR.out)).trans GR.out)
  have NR := Lib.hid (NR.out.below hb)
  clear hb
  clear cc
  have cc := (cell_row GR.out 0).trans A0.out
  go_wp2_with fail
  refine (AL.out _).mono ?_
  rintro e w7 ⟨rfl, hb⟩
  have B0 := Lib.hid (B0.out.trans (hb.mono B0.out.size))
  have GR := Lib.hid ((hb.block _ (blk_lt GR.out)).trans GR.out)
  have NR := Lib.hid (NR.out.below hb)
  clear hb
  go_wp2_with fail
  go_ret
  exact ⟨rfl, B0.out⟩
set_option maxRecDepth 100000 in
set_option maxHeartbeats 16000000 in
theorem puts_wrong (A : Array Value) (n : NV) (key : Int) (z : List Int) (w : World) (hv : ND w (.agg A) n) (hA : okA 0 A) (hz1 : z.length = 44) (hg : greatB n = false) (hlf : n.leaf = true) (hr : rightB n.leaf n.ks n.vs.length n.qs.length = false) : Calls Try.prog 6 #[.agg A, .int .u64 key, .agg (val z).toArray] w (AliveP w) := by
  have IA := Lib.hid hA.info
  have IV := Lib.hid (i54 hz1)
  have AL := Lib.hid alive8
  have GT : Hid (∀ v W, ND W v n → Calls Try.prog 7 #[v] W fun e w' => e = .returned (.bool false) ∧ Below W.heap.size W w') := fun v W h => by have := great v n W h; rw [hg] at this; exact this
  have RT : Hid (∀ v W, ND W v n → Calls Try.prog 12 #[v] W fun e w' => e = .returned (.bool false) ∧ Below W.heap.size W w') := fun v W h => by have := rightN v n W h; rw [hr] at this; exact this
  have A0 : Hid (A[0]? = some (.bool true)) := by
    obtain ⟨K, V, Q, e, _⟩ := hv
    injection e with e
    show _ = _
    rw [e, hlf]; rfl
  obtain ⟨CV, hCV⟩ : ∃ CV : Array Value, CV = (val z).toArray := ⟨_, rfl⟩
  rw [← hCV] at IV  ⊢
  obtain ⟨W1, hW1⟩ : ∃ W1, W1 = (w.alloc (.cells A 26)).alloc (.cells CV 54) := ⟨_, rfl⟩
  have b0 : Below w.heap.size w (w.alloc (.cells A 26)) := (Below.refl _ _).alloc (Nat.le_refl _) _
  have b1 : Below w.heap.size w W1 := by rw [hW1]; exact b0.alloc (by simp) _
  have GR : Hid (W1.heap[w.heap.size]? = some (.cells A 26 (0, 0))) := by show _ = _; rw [hW1, Below.heap_alloc _ _ _ (by simp)]; exact heap_alloc_new w _
  have GV : Hid (W1.heap[w.heap.size + 1]? = some (.cells CV 54 (0, 0))) := by
    show _ = _
    rw [hW1]
    have := heap_alloc_new (w.alloc (.cells A 26)) (.cells CV 54)
    simpa using this
  have NR := Lib.hid (hv.below b1)
  have B0 := Lib.hid b1
  have HW1 := Lib.hid hW1
  clear hW1 b0 b1 hv hA hz1 hCV hg hlf hr
  go_enter Try.func6, Try.ntmps6
  go_upto_region 1 with (fail)
  rw [← HW1.out]
  have cc := (cell_row GR.out 0).trans A0.out
  go_wp2_with (refine wpList_load_row rfl 26 (.tmp 3) rfl w.heap.size rfl 26 A (0, 0) _ GR.out Try.underlying26 rfl IA.out ?_)
  refine (GT.out _ _ NR.out).mono ?_
  rintro e w1 ⟨rfl, hb⟩
  have B0 := Lib.hid (B0.out.trans (hb.mono B0.out.size))
  have GR := Lib.hid ((hb.block _ (blk_lt GR.out)).trans GR.out)
  have NR := Lib.hid (NR.out.below hb)
  clear hb
  clear cc
  have cc := (cell_row GR.out 0).trans A0.out
  go_wp2_with (refine wpList_load_met rfl 26 (.tmp 3) rfl w.heap.size rfl 26 A (0, 0) _ GR.out Try.underlying26 ⟨_, rfl⟩ IA.out ?_)
  refine (RT.out _ _ NR.out).mono ?_
  rintro e w2 ⟨rfl, hb⟩
  have B0 := Lib.hid (B0.out.trans (hb.mono B0.out.size))
  have GR := Lib.hid ((hb.block _ (blk_lt GR.out)).trans GR.out)
  have NR := Lib.hid (NR.out.below hb)
  clear hb
  go_wp2_with fail
  refine (AL.out _).mono ?_
  rintro e w7 ⟨rfl, hb⟩
  have B0 := Lib.hid (B0.out.trans (hb.mono B0.out.size))
  have GR := Lib.hid ((hb.block _ (blk_lt GR.out)).trans GR.out)
  have NR := Lib.hid (NR.out.below hb)
  clear hb
  go_wp2_with fail
  go_ret
  exact ⟨rfl, B0.out⟩
set_option maxRecDepth 100000 in
set_option maxHeartbeats 16000000 in
theorem puts_was (A : Array Value) (n : NV) (key : Int) (z : List Int) (w : World) (hv : ND w (.agg A) n) (hA : okA 0 A) (hz1 : z.length = 44) (hg : greatB n = false) (hlf : n.leaf = true) (hr : rightB n.leaf n.ks n.vs.length n.qs.length = true) (i : Nat) (hF : FindP n.ks key i true) (hk : 0 ≤ key ∧ key ≤ 18446744073709551615) (hz0 : ∀ x ∈ z, 0 ≤ x ∧ x ≤ 255) : Calls Try.prog 6 #[.agg A, .int .u64 key, .agg (val z).toArray] w (AliveP w) := by
  have IA := Lib.hid hA.info
  have IV := Lib.hid (i54 hz1)
  have AL := Lib.hid alive8
  have GT : Hid (∀ v W, ND W v n → Calls Try.prog 7 #[v] W fun e w' => e = .returned (.bool false) ∧ Below W.heap.size W w') := fun v W h => by have := great v n W h; rw [hg] at this; exact this
  have RT : Hid (∀ v W, ND W v n → Calls Try.prog 12 #[v] W fun e w' => e = .returned (.bool true) ∧ Below W.heap.size W w') := fun v W h => by have := rightN v n W h; rw [hr] at this; exact this
  have A0 : Hid (A[0]? = some (.bool true)) := by
    obtain ⟨K, V, Q, e, _⟩ := hv
    injection e with e
    show _ = _
    rw [e, hlf]; rfl
  obtain ⟨hwn, hl1, hri, hvl⟩ := right_parts hr
  rw [hlf, if_pos rfl] at hvl
  have hqs : n.qs = [] := by
    unfold rightB at hr
    simp only [Bool.and_eq_true, decide_eq_true_eq] at hr
    obtain ⟨⟨_, _, _, h4⟩, _⟩ := hr
    rw [hlf, if_pos rfl] at h4
    exact List.length_eq_zero_iff.1 h4
  have hs := great_small hg
  have h30 : n.ks.length ≤ 30 := by
    unfold greatB at hg
    simp only [Bool.or_eq_false_iff, decide_eq_false_iff_not] at hg
    omega
  have hi1 := hF.1
  have hbe := beh_lo hF
  have hb01 : beh i true = i + 1 := rfl
  obtain ⟨M, hM⟩ : ∃ M, M = putN n i (beh i true) key z := ⟨_, rfl⟩
  obtain ⟨C, hC⟩ : ∃ C, C = cutN M i (i + 1) := ⟨_, rfl⟩
  have mks : M.ks = putL n.ks i (beh i true) key := by rw [hM]; rfl
  have mvs : M.vs = putL n.vs i (beh i true) z := by rw [hM]; rfl
  have mkl : M.ks.length = i + 1 + (n.ks.length - beh i true) := by rw [mks]; exact putL_len _ _ _ _ hi1
  have mvl : M.vs.length = i + 1 + (n.vs.length - beh i true) := by rw [mvs]; exact putL_len _ _ _ _ (by omega)
  have ml : M.leaf = true := by rw [hM]; rfl
  have mq : M.qs = [] := by rw [hM]; show n.qs.take 0 ++ [] ++ n.qs.drop 0 = []; rw [hqs]; rfl
  have msm : small M := ⟨by omega, by omega, by rw [mq]; decide⟩
  have mwh : wholeB M = true := by unfold wholeB; rw [ml, if_pos rfl]; exact decide_eq_true (by omega)
  have cN : C = ⟨true, n.ks.take i ++ [] ++ n.ks.drop (beh i true), n.vs.take i ++ [] ++ n.vs.drop (beh i true), []⟩ := by rw [hC, hM]; exact cutN_put hi1 (by omega) hqs
  have PU : Hid (∀ W, ND W (.agg A) n → Calls Try.prog 22 #[.agg A, .int .u64 key, .agg (val z).toArray] W (NewN W M)) := fun W h => by
    rw [hM]
    exact put_true A n key z i W h hA hs hwn hlf hri hF hk hz0 hz1
  have FM : Hid (∀ v W, ND W v M → Calls Try.prog 23 #[v, .int .u64 key] W fun e w' => e = .returned (.tuple #[.int .i64 (i : Int), .bool true]) ∧ Below W.heap.size W w') := fun v W h => find v M key i true W h (by rw [mks]; exact put_rises hri hF) (by rw [mks]; exact put_find hF)
  have FN : Hid (∀ v W, ND W v n → Calls Try.prog 23 #[v, .int .u64 key] W fun e w' => e = .returned (.tuple #[.int .i64 (i : Int), .bool true]) ∧ Below W.heap.size W w') := fun v W h => find v n key i true W h hri hF
  have FC : Hid (∀ v W, ND W v C → Calls Try.prog 23 #[v, .int .u64 key] W fun e w' => e = .returned (.tuple #[.int .i64 (i : Int), .bool false]) ∧ Below W.heap.size W w') := fun v W h => find v C key i false W h (by rw [cN]; exact cut_rises hri hF) (by rw [cN]; exact cut_find hri hF)
  have CM : Hid (∀ X W, ND W (.agg X) M → okA 0 X → Calls Try.prog 24 #[.agg X, .int .i64 (i : Int)] W (NewN W C)) := fun X W h ok => by
    rw [hC]
    exact cut X M i W h ok msm mwh (by omega)
  obtain ⟨D, hD⟩ : ∃ D, D = cutN n i (i + 1) := ⟨_, rfl⟩
  have CD : Hid (∀ W, ND W (.agg A) n → Calls Try.prog 24 #[.agg A, .int .i64 (i : Int)] W (NewN W D)) := fun W h => by
    rw [hD]
    exact cut A n i W h hA hs hwn (hF.2.2.1 rfl).1
  have SM : Hid (∀ v u W, ND W v C → ND W u D → Calls Try.prog 18 #[v, u] W fun e w' => e = .returned (.bool true) ∧ Below W.heap.size W w') := fun v u W h k => by
    have := same v u C D W h k
    rw [show sameB C D = true by rw [show C = D by rw [cN, hD]; unfold cutN; rw [hlf, hqs]; simp [beh]]; simp [sameB]] at this
    exact this
  have VEQ : Hid (∀ W : World, (Op.equalIn 10000 54 (.agg (val z).toArray) (.agg (val z).toArray)).run Try.prog W = .ok true W) := fun W => by
    rw [valEq z z hz0 hz0 hz1 hz1 W, decide_eq_true rfl]
  have VAT : Hid (M.vs[i]? = some z) := by show _ = _; rw [mvs]; exact putL_at (by omega)
  have A1 : Hid (∃ x c, A[1]? = some (.slice x n.ks.length c)) := by obtain ⟨x, c, h, _⟩ := hv.keys; exact ⟨x, c, h⟩
  obtain ⟨xk, ck, a1⟩ := A1.out
  have A1 := Lib.hid a1
  have MK : Hid (M.ks.length = n.ks.length) := by show _ = _; rw [mkl]; rw [hb01]; have := (hF.2.2.1 rfl).1; omega
  have MV : Hid (M.vs.length = n.ks.length) := by show _ = _; rw [mvl, hvl]; rw [hb01]; have := (hF.2.2.1 rfl).1; omega
  have hz26 := z26
  obtain ⟨Z, hZ⟩ : ∃ Z : Array Value, Z = #[.bool false, .slice none 0 0, .slice none 0 0, .slice none 0 0] := ⟨_, rfl⟩
  rw [← hZ] at hz26
  have Z4 : Hid (Z.size = 4) := by show _ = _; rw [hZ]; rfl
  obtain ⟨CV, hCV⟩ : ∃ CV : Array Value, CV = (val z).toArray := ⟨_, rfl⟩
  rw [← hCV] at IV PU VEQ ⊢
  obtain ⟨W1, hW1⟩ : ∃ W1, W1 = (w.alloc (.cells A 26)).alloc (.cells CV 54) := ⟨_, rfl⟩
  have b0 : Below w.heap.size w (w.alloc (.cells A 26)) := (Below.refl _ _).alloc (Nat.le_refl _) _
  have b1 : Below w.heap.size w W1 := by rw [hW1]; exact b0.alloc (by simp) _
  have GR : Hid (W1.heap[w.heap.size]? = some (.cells A 26 (0, 0))) := by show _ = _; rw [hW1, Below.heap_alloc _ _ _ (by simp)]; exact heap_alloc_new w _
  have GV : Hid (W1.heap[w.heap.size + 1]? = some (.cells CV 54 (0, 0))) := by
    show _ = _
    rw [hW1]
    have := heap_alloc_new (w.alloc (.cells A 26)) (.cells CV 54)
    simpa using this
  have NR := Lib.hid (hv.below b1)
  have B0 := Lib.hid b1
  have HW1 := Lib.hid hW1
  have VRG : Hid (∀ W x cc, ES val 44 W (.slice x M.vs.length cc) M.vs → ∃ b o, x = some ⟨b, o, none⟩ ∧ b < W.heap.size ∧ W.rangeAt b (o + i * 44) CV.toList) := fun W x cc h => by
    obtain ⟨_, _, x', c', e, h4⟩ := h
    injection e with e1 _ _
    subst e1
    obtain ⟨b, o, h5, h6, h7⟩ := h4 i z VAT.out
    exact ⟨b, o, h5, h6, by rw [hCV]; exact h7⟩
  have iM : i < M.vs.length := (List.getElem?_eq_some_iff.1 VAT.out).1
  rw [MV.out] at iM
  have hl30 : (n.ks.length : Int) ≤ 30 := by omega
  have MVAL : Hid (∀ W X, ND W (.agg X) M → ∃ x c, X[2]? = some (.slice x M.vs.length c) ∧ ES val 44 W (.slice x M.vs.length c) M.vs) := fun W X h => by
    obtain ⟨K, V, Q, e, _, h2, _⟩ := h
    obtain ⟨x, c, rfl⟩ := h2.len
    injection e with e
    exact ⟨x, c, by rw [e]; rfl, h2⟩
  clear hW1 b0 b1 hv hA hz1 hCV h30 hg hlf hr hF hk hz0 hwn hl1 hri hvl hqs hs hi1 hbe hb01 mks mvs mkl mvl ml mq msm mwh cN hM hC a1 hZ hD
  generalize n.ks.length = l at *
  rw [MV.out] at VRG MVAL
  go_enter Try.func6, Try.ntmps6
  go_upto_region 1 with (fail)
  rw [← HW1.out]
  have cc := (cell_row GR.out 0).trans A0.out
  go_wp2_with (refine wpList_load_row rfl 26 (.tmp 3) rfl w.heap.size rfl 26 A (0, 0) _ GR.out Try.underlying26 rfl IA.out ?_)
  refine (GT.out _ _ NR.out).mono ?_
  rintro e w1 ⟨rfl, hb⟩
  have B0 := Lib.hid (B0.out.trans (hb.mono B0.out.size))
  have GR := Lib.hid ((hb.block _ (blk_lt GR.out)).trans GR.out)
  have GV := Lib.hid ((hb.block _ (blk_lt GV.out)).trans GV.out)
  have NR := Lib.hid (NR.out.below hb)
  clear hb
  clear cc
  have cc := (cell_row GR.out 0).trans A0.out
  go_wp2_with (refine wpList_load_met rfl 26 (.tmp 3) rfl w.heap.size rfl 26 A (0, 0) _ GR.out Try.underlying26 ⟨_, rfl⟩ IA.out ?_)
  refine (RT.out _ _ NR.out).mono ?_
  rintro e w2 ⟨rfl, hb⟩
  have B0 := Lib.hid (B0.out.trans (hb.mono B0.out.size))
  have GR := Lib.hid ((hb.block _ (blk_lt GR.out)).trans GR.out)
  have GV := Lib.hid ((hb.block _ (blk_lt GV.out)).trans GV.out)
  have NR := Lib.hid (NR.out.below hb)
  clear hb
  clear cc
  go_wp2_with (first | (refine wpList_load_row rfl 26 (.tmp 3) rfl w.heap.size rfl 26 A (0, 0) _ GR.out Try.underlying26 rfl IA.out ?_) | (refine wpList_load_row rfl 54 (.tmp 5) rfl (w.heap.size + 1) rfl 54 CV (0, 0) _ GV.out Try.underlying54 rfl IV.out ?_))
  refine (PU.out _ NR.out).mono ?_
  rintro e w3 ⟨XM, rfl, hm, hok, hb⟩
  have B0 := Lib.hid (B0.out.trans (hb.mono B0.out.size))
  have GR := Lib.hid ((hb.block _ (blk_lt GR.out)).trans GR.out)
  have GV := Lib.hid ((hb.block _ (blk_lt GV.out)).trans GV.out)
  have NR := Lib.hid (NR.out.below hb)
  have NM := Lib.hid hm
  have OM := Lib.hid (hok.le (Nat.zero_le _))
  clear hm hok
  clear hb
  have Sgm : Hid (Z.size = XM.size) := by show _ = _; rw [Z4.out, OM.out.four]
  have Igm := Lib.hid OM.out.info
  have Ogm := Lib.hid OM.out.one
  have GN := Lib.hid (heap_alloc_new w3 (.cells Z 26))
  have RW := Lib.hid (alloc_setRowT w3 Z XM 26 _ rfl)
  have hb : Below w3.heap.size w3 (w3.alloc (.cells XM 26)) := (Below.refl _ _).alloc (Nat.le_refl _) _
  have GM := Lib.hid (heap_alloc_new w3 (.cells XM 26))
  have B0 := Lib.hid (B0.out.trans (hb.mono B0.out.size))
  have GR := Lib.hid ((hb.block _ (blk_lt GR.out)).trans GR.out)
  have GV := Lib.hid ((hb.block _ (blk_lt GV.out)).trans GV.out)
  have NR := Lib.hid (NR.out.below hb)
  have NM := Lib.hid (NM.out.below hb)
  clear hb
  go_upto_region 4 with (refine wpList_store_row rfl 26 (.tmp 7) (.tmp 31) rfl w3.heap.size XM rfl rfl 26 Z GN.out Igm.out Sgm.out Ogm.out ?_)
  rw [RW.out]
  try simp only [Act.put]
  clear GN RW
  generalize w3.alloc (.cells XM 26) = w4 at *
  generalize w3.heap.size = gm at *
  go_wp2_with (refine wpList_load_row rfl 26 (.tmp 7) rfl gm rfl 26 XM (0, 0) _ GM.out Try.underlying26 rfl Igm.out ?_)
  refine (FM.out _ _ NM.out).mono ?_
  rintro e w5 ⟨rfl, hb⟩
  have B0 := Lib.hid (B0.out.trans (hb.mono B0.out.size))
  have GR := Lib.hid ((hb.block _ (blk_lt GR.out)).trans GR.out)
  have GV := Lib.hid ((hb.block _ (blk_lt GV.out)).trans GV.out)
  have NR := Lib.hid (NR.out.below hb)
  have NM := Lib.hid (NM.out.below hb)
  have GM := Lib.hid ((hb.block _ (blk_lt GM.out)).trans GM.out)
  clear hb
  obtain ⟨xm, cm, m2, esm⟩ := MVAL.out _ _ NM.out
  obtain ⟨bm, om, rfl, hlb, hrg⟩ := VRG.out _ _ _ esm
  obtain ⟨ym, dm, mk1, _⟩ := NM.out.keys
  rw [MK.out] at mk1
  have M1 := Lib.hid mk1
  have M2 := Lib.hid m2
  have LB0 := Lib.hid hlb
  have RG0 := Lib.hid hrg
  clear mk1 m2 esm hlb hrg MVAL VRG
  have GM0 := GM
  have GV0 := GV
  have hlt1 : (i : Int) < (l : Int) := by omega
  have hge1 : decide (l ≤ i) = false := decide_eq_false (by omega)
  have hw2 : IntKind.i64.wrap ((l : Int) + 1) = (l : Int) + 1 := IntWalk.i64_in _ (by omega)
  have he1 : ((l : Int) != (l : Int) + 1) = true := by simp; omega
  go_wp2_with fail
  refine wp_region_held_drew (S := fun W => Below w5.heap.size w5 W) (by kernel_rfl) ((Below.refl _ _).drew) (fun hS => ?_)
  have hb0 : Below w5.heap.size w5 w5.drew := (Below.refl _ _).drew
  have qB0 := B0.out.trans (hb0.mono B0.out.size)
  have qGR := (hb0.block _ (blk_lt GR.out)).trans GR.out
  have qGV := (hb0.block _ (blk_lt GV.out)).trans GV.out
  have qNR := NR.out.below hb0
  have qGM := (hb0.block _ (blk_lt GM.out)).trans GM.out
  have qNM := NM.out.below hb0
  clear hb0 B0 GR GV NR GM NM
  generalize w5.drew = Wys at hS qB0 qGR qGV qNR qGM qNM ⊢
  have B0 := Lib.hid qB0
  have GR := Lib.hid qGR
  have GV := Lib.hid qGV
  have NR := Lib.hid qNR
  have GM := Lib.hid qGM
  have NM := Lib.hid qNM
  clear qB0 qGR qGV qNR qGM qNM
  refine' wpAnyH_take (i := 0) ?h1x0y ?hsx0y ?hfx0y ?hrx0y ?hQx0y (Or.inl ⟨?hwx0y, ?hyx0y⟩) hS ?restx0y
  case h1x0y => (simp only [List.getElem?_toArray, List.getElem?_cons_zero]; rfl)
  case hsx0y => kernel_rfl
  case hfx0y => kernel_rfl
  case hrx0y => kernel_rfl
  case hQx0y => exact fun _ _ _ h => h
  case hwx0y => rfl
  case hyx0y =>
    intro W hW
    go_simp
    try with_reducible rfl
  simp only [Act.put, List.setIfInBounds_toArray, List.set_cons_succ, List.set_cons_zero]
  refine' wpAnyH_take (i := 1) ?h1x1y ?hsx1y ?hfx1y ?hrx1y ?hQx1y (Or.inl ⟨?hwx1y, ?hyx1y⟩) hS ?restx1y
  case h1x1y => (simp only [List.getElem?_toArray, List.getElem?_cons_succ, List.getElem?_cons_zero]; rfl)
  case hsx1y => kernel_rfl
  case hfx1y => kernel_rfl
  case hrx1y => kernel_rfl
  case hQx1y => exact fun _ _ _ h => h
  case hwx1y => rfl
  case hyx1y =>
    intro W hW
    go_simp
    try with_reducible rfl
  simp only [Act.put, List.setIfInBounds_toArray, List.set_cons_succ, List.set_cons_zero]
  refine' wpAnyH_take (i := 2) ?h1x2y ?hsx2y ?hfx2y ?hrx2y ?hQx2y (Or.inl ⟨?hwx2y, ?hyx2y⟩) hS ?restx2y
  case h1x2y => (simp only [List.getElem?_toArray, List.getElem?_cons_succ, List.getElem?_cons_zero]; rfl)
  case hsx2y => kernel_rfl
  case hfx2y => kernel_rfl
  case hrx2y => kernel_rfl
  case hQx2y => exact fun _ _ _ h => h
  case hwx2y => rfl
  case hyx2y =>
    intro W hW
    go_simp
    try with_reducible rfl
  simp only [Act.put, List.setIfInBounds_toArray, List.set_cons_succ, List.set_cons_zero]
  refine' wpAnyH_take (i := 3) ?h1x3y ?hsx3y ?hfx3y ?hrx3y ?hQx3y (Or.inl ⟨?hwx3y, ?hyx3y⟩) hS ?restx3y
  case h1x3y => (simp only [List.getElem?_toArray, List.getElem?_cons_succ, List.getElem?_cons_zero]; rfl)
  case hsx3y => kernel_rfl
  case hfx3y => kernel_rfl
  case hrx3y => kernel_rfl
  case hQx3y => exact fun _ _ _ h => h
  case hwx3y => rfl
  case hyx3y =>
    intro W hW
    go_simp
    try with_reducible rfl
  simp only [Act.put, List.setIfInBounds_toArray, List.set_cons_succ, List.set_cons_zero]
  refine' wpAnyH_take (i := 4) ?h1x4y ?hsx4y ?hfx4y ?hrx4y ?hQx4y (Or.inl ⟨?hwx4y, ?hyx4y⟩) hS ?restx4y
  case h1x4y => (simp only [List.getElem?_toArray, List.getElem?_cons_succ, List.getElem?_cons_zero]; rfl)
  case hsx4y => kernel_rfl
  case hfx4y => kernel_rfl
  case hrx4y => kernel_rfl
  case hQx4y => exact fun _ _ _ h => h
  case hwx4y => rfl
  case hyx4y =>
    intro W hW
    go_simp
    try with_reducible rfl
  simp only [Act.put, List.setIfInBounds_toArray, List.set_cons_succ, List.set_cons_zero]
  refine' wpAnyH_take (i := 5) ?h1x5y ?hsx5y ?hfx5y ?hrx5y ?hQx5y (Or.inl ⟨?hwx5y, ?hyx5y⟩) hS ?restx5y
  case h1x5y => (simp only [List.getElem?_toArray, List.getElem?_cons_succ, List.getElem?_cons_zero]; rfl)
  case hsx5y => kernel_rfl
  case hfx5y => kernel_rfl
  case hrx5y => kernel_rfl
  case hQx5y => exact fun _ _ _ h => h
  case hwx5y => rfl
  case hyx5y =>
    intro W hW
    have ck := (hW.cell (p := ⟨gm, 2, none⟩) (blk_lt GM0.out)).trans ((cell_row GM0.out 2).trans M2.out)
    go_simp
    try with_reducible rfl
  simp only [Act.put, List.setIfInBounds_toArray, List.set_cons_succ, List.set_cons_zero]
  refine' wpAnyH_take (i := 6) ?h1x6y ?hsx6y ?hfx6y ?hrx6y ?hQx6y (Or.inl ⟨?hwx6y, ?hyx6y⟩) hS ?restx6y
  case h1x6y => (simp only [List.getElem?_toArray, List.getElem?_cons_succ, List.getElem?_cons_zero]; rfl)
  case hsx6y => kernel_rfl
  case hfx6y => kernel_rfl
  case hrx6y => kernel_rfl
  case hQx6y => exact fun _ _ _ h => h
  case hwx6y => rfl
  case hyx6y =>
    intro W hW
    go_simp
    try with_reducible rfl
  simp only [Act.put, List.setIfInBounds_toArray, List.set_cons_succ, List.set_cons_zero]
  refine' wpAnyH_take (i := 7) ?h1x7y ?hsx7y ?hfx7y ?hrx7y ?hQx7y (Or.inl ⟨?hwx7y, ?hyx7y⟩) hS ?restx7y
  case h1x7y => (simp only [List.getElem?_toArray, List.getElem?_cons_succ, List.getElem?_cons_zero]; rfl)
  case hsx7y => kernel_rfl
  case hfx7y => kernel_rfl
  case hrx7y => kernel_rfl
  case hQx7y => exact fun _ _ _ h => h
  case hwx7y => rfl
  case hyx7y =>
    intro W hW
    go_simp
    try with_reducible rfl
  simp only [Act.put, List.setIfInBounds_toArray, List.set_cons_succ, List.set_cons_zero]
  refine' wpAnyH_take (i := 8) ?h1x8y ?hsx8y ?hfx8y ?hrx8y ?hQx8y (Or.inl ⟨?hwx8y, ?hyx8y⟩) hS ?restx8y
  case h1x8y => (simp only [List.getElem?_toArray, List.getElem?_cons_succ, List.getElem?_cons_zero]; rfl)
  case hsx8y => kernel_rfl
  case hfx8y => kernel_rfl
  case hrx8y => kernel_rfl
  case hQx8y => exact fun _ _ _ h => h
  case hwx8y => rfl
  case hyx8y =>
    intro W hW
    go_simp
    try with_reducible rfl
  simp only [Act.put, List.setIfInBounds_toArray, List.set_cons_succ, List.set_cons_zero]
  refine' wpAnyH_take (i := 9) ?h1x9y ?hsx9y ?hfx9y ?hrx9y ?hQx9y (Or.inl ⟨?hwx9y, ?hyx9y⟩) hS ?restx9y
  case h1x9y => (simp only [List.getElem?_toArray, List.getElem?_cons_succ, List.getElem?_cons_zero]; rfl)
  case hsx9y => kernel_rfl
  case hfx9y => kernel_rfl
  case hrx9y => kernel_rfl
  case hQx9y => exact fun _ _ _ h => h
  case hwx9y => rfl
  case hyx9y =>
    intro W hW
    go_simp
    try with_reducible rfl
  simp only [Act.put, List.setIfInBounds_toArray, List.set_cons_succ, List.set_cons_zero]
  refine' wpAnyH_take (i := 10) ?h1x10y ?hsx10y ?hfx10y ?hrx10y ?hQx10y (Or.inl ⟨?hwx10y, ?hyx10y⟩) hS ?restx10y
  case h1x10y => (simp only [List.getElem?_toArray, List.getElem?_cons_succ, List.getElem?_cons_zero]; rfl)
  case hsx10y => kernel_rfl
  case hfx10y => kernel_rfl
  case hrx10y => kernel_rfl
  case hQx10y => exact fun _ _ _ h => h
  case hwx10y => rfl
  case hyx10y =>
    intro W hW
    go_simp
    try with_reducible rfl
  simp only [Act.put, List.setIfInBounds_toArray, List.set_cons_succ, List.set_cons_zero]
  refine' wpAnyH_take (i := 12) ?h1x12y ?hsx12y ?hfx12y ?hrx12y ?hQx12y (Or.inl ⟨?hwx12y, ?hyx12y⟩) hS ?restx12y
  case h1x12y => (simp only [List.getElem?_toArray, List.getElem?_cons_succ, List.getElem?_cons_zero]; rfl)
  case hsx12y => kernel_rfl
  case hfx12y => kernel_rfl
  case hrx12y => kernel_rfl
  case hQx12y => exact fun _ _ _ h => h
  case hwx12y => rfl
  case hyx12y =>
    intro W hW
    go_simp
    try with_reducible rfl
  simp only [Act.put, List.setIfInBounds_toArray, List.set_cons_succ, List.set_cons_zero]
  refine' wpAnyH_take (i := 15) ?h1x15y ?hsx15y ?hfx15y ?hrx15y ?hQx15y (yieldsIf_load_at ?hwx15y 54 (.tmp 5) ?hopx15y (w.heap.size + 1) 0 rfl CV _ (fun W hW => range_row ((hW.block _ (blk_lt GV0.out)).trans GV0.out)) Try.underlying54 rfl ?hix15y) hS ?restx15y
  case h1x15y => (simp only [List.getElem?_toArray, List.getElem?_cons_succ, List.getElem?_cons_zero]; rfl)
  case hopx15y => rfl
  case hsx15y => kernel_rfl
  case hfx15y => kernel_rfl
  case hrx15y => kernel_rfl
  case hQx15y => exact fun _ _ _ h => h
  case hwx15y => rfl
  case hix15y => exact IV.out
  simp only [Act.put, List.setIfInBounds_toArray, List.set_cons_succ, List.set_cons_zero]
  refine' wpAnyH_take (i := 11) ?h1x11y ?hsx11y ?hfx11y ?hrx11y ?hQx11y (Or.inl ⟨?hwx11y, ?hyx11y⟩) hS ?restx11y
  case h1x11y => (simp only [List.getElem?_toArray, List.getElem?_cons_succ, List.getElem?_cons_zero]; rfl)
  case hsx11y => kernel_rfl
  case hfx11y => kernel_rfl
  case hrx11y => kernel_rfl
  case hQx11y => exact fun _ _ _ h => h
  case hwx11y => rfl
  case hyx11y =>
    intro W hW
    have ck := (hW.cell (p := ⟨gm, 2, none⟩) (blk_lt GM0.out)).trans ((cell_row GM0.out 2).trans M2.out)
    go_simp
    try with_reducible rfl
  simp only [Act.put, List.setIfInBounds_toArray, List.set_cons_succ, List.set_cons_zero]
  refine' wpAnyH_take (i := 13) ?h1x13y ?hsx13y ?hfx13y ?hrx13y ?hQx13y (Or.inl ⟨?hwx13y, ?hyx13y⟩) hS ?restx13y
  case h1x13y => (simp only [List.getElem?_toArray, List.getElem?_cons_succ, List.getElem?_cons_zero]; rfl)
  case hsx13y => kernel_rfl
  case hfx13y => kernel_rfl
  case hrx13y => kernel_rfl
  case hQx13y => exact fun _ _ _ h => h
  case hwx13y => rfl
  case hyx13y =>
    intro W hW
    go_simp
    try with_reducible rfl
  simp only [Act.put, List.setIfInBounds_toArray, List.set_cons_succ, List.set_cons_zero]
  refine' wpAnyH_take (i := 14) ?h1x14y ?hsx14y ?hfx14y ?hrx14y ?hQx14y (yieldsIf_load_at ?hwx14y 54 (.tmp 51) ?hopx14y bm (om + i * 44) rfl CV _ (fun W hW => range_below RG0.out LB0.out hW) Try.underlying54 rfl ?hix14y) hS ?restx14y
  case h1x14y => (simp only [List.getElem?_toArray, List.getElem?_cons_succ, List.getElem?_cons_zero]; rfl)
  case hopx14y => rfl
  case hsx14y => kernel_rfl
  case hfx14y => kernel_rfl
  case hrx14y => kernel_rfl
  case hQx14y => exact fun _ _ _ h => h
  case hwx14y => rfl
  case hix14y => exact IV.out
  simp only [Act.put, List.setIfInBounds_toArray, List.set_cons_succ, List.set_cons_zero]
  refine' wpAnyH_take (i := 16) ?h1x16y ?hsx16y ?hfx16y ?hrx16y ?hQx16y (Or.inl ⟨?hwx16y, ?hyx16y⟩) hS ?restx16y
  case h1x16y => (simp only [List.getElem?_toArray, List.getElem?_cons_succ, List.getElem?_cons_zero]; rfl)
  case hsx16y => kernel_rfl
  case hfx16y => kernel_rfl
  case hrx16y => kernel_rfl
  case hQx16y => exact fun _ _ _ h => h
  case hwx16y => rfl
  case hyx16y =>
    intro W hW
    have veq := VEQ.out
    go_simp
    try with_reducible rfl
  simp only [Act.put, List.setIfInBounds_toArray, List.set_cons_succ, List.set_cons_zero]
  refine' wpAnyH_take (i := 17) ?h1x17y ?hsx17y ?hfx17y ?hrx17y ?hQx17y (Or.inl ⟨?hwx17y, ?hyx17y⟩) hS ?restx17y
  case h1x17y => (simp only [List.getElem?_toArray, List.getElem?_cons_succ, List.getElem?_cons_zero]; rfl)
  case hsx17y => kernel_rfl
  case hfx17y => kernel_rfl
  case hrx17y => kernel_rfl
  case hQx17y => exact fun _ _ _ h => h
  case hwx17y => rfl
  case hyx17y =>
    intro W hW
    go_simp
    try with_reducible rfl
  simp only [Act.put, List.setIfInBounds_toArray, List.set_cons_succ, List.set_cons_zero]
  refine wpAnyH_done (by kernel_rfl) ?_ _
  go_wp2_with (refine wpList_load_row rfl 26 (.tmp 3) rfl w.heap.size rfl 26 A (0, 0) _ GR.out Try.underlying26 rfl IA.out ?_)
  refine (FN.out _ _ NR.out).mono ?_
  rintro e w6 ⟨rfl, hb⟩
  have B0 := Lib.hid (B0.out.trans (hb.mono B0.out.size))
  have GR := Lib.hid ((hb.block _ (blk_lt GR.out)).trans GR.out)
  have GV := Lib.hid ((hb.block _ (blk_lt GV.out)).trans GV.out)
  have NR := Lib.hid (NR.out.below hb)
  have NM := Lib.hid (NM.out.below hb)
  have GM := Lib.hid ((hb.block _ (blk_lt GM.out)).trans GM.out)
  clear hb
  have c1 := (cell_row GM.out 1).trans M1.out
  have c0 := (cell_row GR.out 1).trans A1.out
  go_wp2_with (refine wpList_load_row rfl 26 (.tmp 7) rfl gm rfl 26 XM (0, 0) _ GM.out Try.underlying26 rfl Igm.out ?_)
  refine (CM.out XM _ NM.out OM.out).mono ?_
  rintro e w7 ⟨XC, rfl, hm, hok, hb⟩
  have B0 := Lib.hid (B0.out.trans (hb.mono B0.out.size))
  have GR := Lib.hid ((hb.block _ (blk_lt GR.out)).trans GR.out)
  have GV := Lib.hid ((hb.block _ (blk_lt GV.out)).trans GV.out)
  have NR := Lib.hid (NR.out.below hb)
  have NM := Lib.hid (NM.out.below hb)
  have GM := Lib.hid ((hb.block _ (blk_lt GM.out)).trans GM.out)
  have NC := Lib.hid hm
  have OC := Lib.hid (hok.le (Nat.zero_le _))
  clear hm hok c1 c0
  clear hb
  have Sgc : Hid (Z.size = XC.size) := by show _ = _; rw [Z4.out, OC.out.four]
  have Igc := Lib.hid OC.out.info
  have Ogc := Lib.hid OC.out.one
  have GN := Lib.hid (heap_alloc_new w7 (.cells Z 26))
  have RW := Lib.hid (alloc_setRowT w7 Z XC 26 _ rfl)
  have hb : Below w7.heap.size w7 (w7.alloc (.cells XC 26)) := (Below.refl _ _).alloc (Nat.le_refl _) _
  have GC := Lib.hid (heap_alloc_new w7 (.cells XC 26))
  have B0 := Lib.hid (B0.out.trans (hb.mono B0.out.size))
  have GR := Lib.hid ((hb.block _ (blk_lt GR.out)).trans GR.out)
  have GV := Lib.hid ((hb.block _ (blk_lt GV.out)).trans GV.out)
  have NR := Lib.hid (NR.out.below hb)
  have NM := Lib.hid (NM.out.below hb)
  have GM := Lib.hid ((hb.block _ (blk_lt GM.out)).trans GM.out)
  have NC := Lib.hid (NC.out.below hb)
  clear hb
  go_upto_region 11 with (refine wpList_store_row rfl 26 (.tmp 12) (.tmp 93) rfl w7.heap.size XC rfl rfl 26 Z GN.out Igc.out Sgc.out Ogc.out ?_)
  rw [RW.out]
  try simp only [Act.put]
  clear GN RW
  generalize w7.alloc (.cells XC 26) = w8 at *
  generalize w7.heap.size = gc at *
  go_wp2_with (refine wpList_load_row rfl 26 (.tmp 12) rfl gc rfl 26 XC (0, 0) _ GC.out Try.underlying26 rfl Igc.out ?_)
  refine (FC.out _ _ NC.out).mono ?_
  rintro e w9 ⟨rfl, hb⟩
  have B0 := Lib.hid (B0.out.trans (hb.mono B0.out.size))
  have GR := Lib.hid ((hb.block _ (blk_lt GR.out)).trans GR.out)
  have GV := Lib.hid ((hb.block _ (blk_lt GV.out)).trans GV.out)
  have NR := Lib.hid (NR.out.below hb)
  have NM := Lib.hid (NM.out.below hb)
  have GM := Lib.hid ((hb.block _ (blk_lt GM.out)).trans GM.out)
  have NC := Lib.hid (NC.out.below hb)
  have GC := Lib.hid ((hb.block _ (blk_lt GC.out)).trans GC.out)
  clear hb
  go_wp2_with fail
  refine wp_region_held_drew (S := fun W => Below w9.heap.size w9 W ∧ W.heap[w.heap.size]? = some (.cells A 26 (0, 0)) ∧ W.heap[gc]? = some (.cells XC 26 (0, 0))) (by kernel_rfl) (⟨(Below.refl _ _).drew, GR.out, GC.out⟩) (fun hS => ?_)
  have hb0 : Below w9.heap.size w9 w9.drew := (Below.refl _ _).drew
  have qB0 := B0.out.trans (hb0.mono B0.out.size)
  have qGR := (hb0.block _ (blk_lt GR.out)).trans GR.out
  have qNR := NR.out.below hb0
  have qNC := NC.out.below hb0
  have qGC := (hb0.block _ (blk_lt GC.out)).trans GC.out
  clear hb0 B0 GR NR NC GC
  generalize w9.drew = Wzs at hS qB0 qGR qNR qNC qGC ⊢
  have B0 := Lib.hid qB0
  have GR := Lib.hid qGR
  have NR := Lib.hid qNR
  have NC := Lib.hid qNC
  have GC := Lib.hid qGC
  clear qB0 qGR qNR qNC qGC
  refine wpAnyH_ready (rs := [0]) (by kernel_rfl) (by simp) ?_
  refine' (AllReadyH.cons ?hoc0z (fun K hK => ?stc0z) AllReadyH.nil)
  case hoc0z => (simp only [List.getElem?_toArray, List.getElem?_cons_zero]; rfl)
  go_simp
  refine (AL.out Wzs).mono ?_
  rintro e Wzx0 ⟨rfl, hb⟩
  have B0 := Lib.hid (B0.out.trans (hb.mono B0.out.size))
  have GR := Lib.hid ((hb.block _ (blk_lt GR.out)).trans GR.out)
  have NR := Lib.hid (NR.out.below hb)
  have NC := Lib.hid (NC.out.below hb)
  have GC := Lib.hid ((hb.block _ (blk_lt GC.out)).trans GC.out)
  go_wp2_with fail
  refine hK.out _ _ (⟨hS.1.trans (hb.mono hS.1.size), (hb.block _ (blk_lt hS.2.1)).trans hS.2.1, (hb.block _ (blk_lt hS.2.2)).trans hS.2.2⟩) (fun hHeld => ?_)
  clear hK K
  try simp only [Act.put, List.setIfInBounds_toArray, List.set_cons_succ, List.set_cons_zero]
  clear hS
  have hS := hHeld
  clear hHeld
  clear hb
  refine' wpAnyH_take (i := 1) ?h1x1zx0 ?hsx1zx0 ?hfx1zx0 ?hrx1zx0 ?hQx1zx0 (Or.inl ⟨?hwx1zx0, ?hyx1zx0⟩) hS ?restx1zx0
  case h1x1zx0 => (simp only [List.getElem?_toArray, List.getElem?_cons_succ, List.getElem?_cons_zero]; rfl)
  case hsx1zx0 => kernel_rfl
  case hfx1zx0 => kernel_rfl
  case hrx1zx0 => kernel_rfl
  case hQx1zx0 => exact fun _ _ _ h => h
  case hwx1zx0 => rfl
  case hyx1zx0 =>
    intro W hW
    go_simp
    try with_reducible rfl
  simp only [Act.put, List.setIfInBounds_toArray, List.set_cons_succ, List.set_cons_zero]
  refine' wpAnyH_take (i := 2) ?h1x2zx0 ?hsx2zx0 ?hfx2zx0 ?hrx2zx0 ?hQx2zx0 (Or.inl ⟨?hwx2zx0, ?hyx2zx0⟩) hS ?restx2zx0
  case h1x2zx0 => (simp only [List.getElem?_toArray, List.getElem?_cons_succ, List.getElem?_cons_zero]; rfl)
  case hsx2zx0 => kernel_rfl
  case hfx2zx0 => kernel_rfl
  case hrx2zx0 => kernel_rfl
  case hQx2zx0 => exact fun _ _ _ h => h
  case hwx2zx0 => rfl
  case hyx2zx0 =>
    intro W hW
    go_simp
    try with_reducible rfl
  simp only [Act.put, List.setIfInBounds_toArray, List.set_cons_succ, List.set_cons_zero]
  refine' wpAnyH_take (i := 3) ?h1x3zx0 ?hsx3zx0 ?hfx3zx0 ?hrx3zx0 ?hQx3zx0 (Or.inl ⟨?hwx3zx0, ?hyx3zx0⟩) hS ?restx3zx0
  case h1x3zx0 => (simp only [List.getElem?_toArray, List.getElem?_cons_succ, List.getElem?_cons_zero]; rfl)
  case hsx3zx0 => kernel_rfl
  case hfx3zx0 => kernel_rfl
  case hrx3zx0 => kernel_rfl
  case hQx3zx0 => exact fun _ _ _ h => h
  case hwx3zx0 => rfl
  case hyx3zx0 =>
    intro W hW
    go_simp
    try with_reducible rfl
  simp only [Act.put, List.setIfInBounds_toArray, List.set_cons_succ, List.set_cons_zero]
  refine' wpAnyH_take (i := 4) ?h1x4zx0 ?hsx4zx0 ?hfx4zx0 ?hrx4zx0 ?hQx4zx0 (Or.inl ⟨?hwx4zx0, ?hyx4zx0⟩) hS ?restx4zx0
  case h1x4zx0 => (simp only [List.getElem?_toArray, List.getElem?_cons_succ, List.getElem?_cons_zero]; rfl)
  case hsx4zx0 => kernel_rfl
  case hfx4zx0 => kernel_rfl
  case hrx4zx0 => kernel_rfl
  case hQx4zx0 => exact fun _ _ _ h => h
  case hwx4zx0 => rfl
  case hyx4zx0 =>
    intro W hW
    go_simp
    try with_reducible rfl
  simp only [Act.put, List.setIfInBounds_toArray, List.set_cons_succ, List.set_cons_zero]
  refine' wpAnyH_take (i := 5) ?h1x5zx0 ?hsx5zx0 ?hfx5zx0 ?hrx5zx0 ?hQx5zx0 (Or.inl ⟨?hwx5zx0, ?hyx5zx0⟩) hS ?restx5zx0
  case h1x5zx0 => (simp only [List.getElem?_toArray, List.getElem?_cons_succ, List.getElem?_cons_zero]; rfl)
  case hsx5zx0 => kernel_rfl
  case hfx5zx0 => kernel_rfl
  case hrx5zx0 => kernel_rfl
  case hQx5zx0 => exact fun _ _ _ h => h
  case hwx5zx0 => rfl
  case hyx5zx0 =>
    intro W hW
    go_simp
    try with_reducible rfl
  simp only [Act.put, List.setIfInBounds_toArray, List.set_cons_succ, List.set_cons_zero]
  refine' wpAnyH_take (i := 6) ?h1x6zx0 ?hsx6zx0 ?hfx6zx0 ?hrx6zx0 ?hQx6zx0 (Or.inl ⟨?hwx6zx0, ?hyx6zx0⟩) hS ?restx6zx0
  case h1x6zx0 => (simp only [List.getElem?_toArray, List.getElem?_cons_succ, List.getElem?_cons_zero]; rfl)
  case hsx6zx0 => kernel_rfl
  case hfx6zx0 => kernel_rfl
  case hrx6zx0 => kernel_rfl
  case hQx6zx0 => exact fun _ _ _ h => h
  case hwx6zx0 => rfl
  case hyx6zx0 =>
    intro W hW
    go_simp
    try with_reducible rfl
  simp only [Act.put, List.setIfInBounds_toArray, List.set_cons_succ, List.set_cons_zero]
  refine' wpAnyH_take (i := 7) ?h1x7zx0 ?hsx7zx0 ?hfx7zx0 ?hrx7zx0 ?hQx7zx0 (Or.inl ⟨?hwx7zx0, ?hyx7zx0⟩) hS ?restx7zx0
  case h1x7zx0 => (simp only [List.getElem?_toArray, List.getElem?_cons_succ, List.getElem?_cons_zero]; rfl)
  case hsx7zx0 => kernel_rfl
  case hfx7zx0 => kernel_rfl
  case hrx7zx0 => kernel_rfl
  case hQx7zx0 => exact fun _ _ _ h => h
  case hwx7zx0 => rfl
  case hyx7zx0 =>
    intro W hW
    go_simp
    try with_reducible rfl
  simp only [Act.put, List.setIfInBounds_toArray, List.set_cons_succ, List.set_cons_zero]
  refine' wpAnyH_take (i := 8) ?h1x8zx0 ?hsx8zx0 ?hfx8zx0 ?hrx8zx0 ?hQx8zx0 (yieldsIf_load_at ?hwx8zx0 26 (.tmp 12) ?hopx8zx0 gc 0 rfl XC _ (fun W hW => range_row hW.2.2) Try.underlying26 rfl ?hix8zx0) hS ?restx8zx0
  case h1x8zx0 => (simp only [List.getElem?_toArray, List.getElem?_cons_succ, List.getElem?_cons_zero]; rfl)
  case hopx8zx0 => rfl
  case hsx8zx0 => kernel_rfl
  case hfx8zx0 => kernel_rfl
  case hrx8zx0 => kernel_rfl
  case hQx8zx0 => exact fun _ _ _ h => h
  case hwx8zx0 => rfl
  case hix8zx0 => exact Igc.out
  simp only [Act.put, List.setIfInBounds_toArray, List.set_cons_succ, List.set_cons_zero]
  refine' wpAnyH_take (i := 9) ?h1x9zx0 ?hsx9zx0 ?hfx9zx0 ?hrx9zx0 ?hQx9zx0 (yieldsIf_load_at ?hwx9zx0 26 (.tmp 3) ?hopx9zx0 w.heap.size 0 rfl A _ (fun W hW => range_row hW.2.1) Try.underlying26 rfl ?hix9zx0) hS ?restx9zx0
  case h1x9zx0 => (simp only [List.getElem?_toArray, List.getElem?_cons_succ, List.getElem?_cons_zero]; rfl)
  case hopx9zx0 => rfl
  case hsx9zx0 => kernel_rfl
  case hfx9zx0 => kernel_rfl
  case hrx9zx0 => kernel_rfl
  case hQx9zx0 => exact fun _ _ _ h => h
  case hwx9zx0 => rfl
  case hix9zx0 => exact IA.out
  simp only [Act.put, List.setIfInBounds_toArray, List.set_cons_succ, List.set_cons_zero]
  refine' wpAnyH_take (i := 10) ?h1x10zx0 ?hsx10zx0 ?hfx10zx0 ?hrx10zx0 ?hQx10zx0 (Or.inl ⟨?hwx10zx0, ?hyx10zx0⟩) hS ?restx10zx0
  case h1x10zx0 => (simp only [List.getElem?_toArray, List.getElem?_cons_succ, List.getElem?_cons_zero]; rfl)
  case hsx10zx0 => kernel_rfl
  case hfx10zx0 => kernel_rfl
  case hrx10zx0 => kernel_rfl
  case hQx10zx0 => exact fun _ _ _ h => h
  case hwx10zx0 => rfl
  case hyx10zx0 =>
    intro W hW
    go_simp
    try with_reducible rfl
  simp only [Act.put, List.setIfInBounds_toArray, List.set_cons_succ, List.set_cons_zero]
  refine wpAnyH_ready (rs := [11]) (by kernel_rfl) (by simp) ?_
  refine' (AllReadyH.cons ?hoc11zx0 (fun K hK => ?stc11zx0) AllReadyH.nil)
  case hoc11zx0 => (simp only [List.getElem?_toArray, List.getElem?_cons_succ, List.getElem?_cons_zero]; rfl)
  go_simp
  refine (CD.out Wzx0 NR.out).mono ?_
  rintro e Wzx0x11 ⟨XD, rfl, hn, hok, hb⟩
  have B0 := Lib.hid (B0.out.trans (hb.mono B0.out.size))
  have GR := Lib.hid ((hb.block _ (blk_lt GR.out)).trans GR.out)
  have NR := Lib.hid (NR.out.below hb)
  have NC := Lib.hid (NC.out.below hb)
  have GC := Lib.hid ((hb.block _ (blk_lt GC.out)).trans GC.out)
  have ND2 := Lib.hid hn
  clear hn hok
  go_wp2_with fail
  refine hK.out _ _ (⟨hS.1.trans (hb.mono hS.1.size), (hb.block _ (blk_lt hS.2.1)).trans hS.2.1, (hb.block _ (blk_lt hS.2.2)).trans hS.2.2⟩) (fun hHeld => ?_)
  clear hK K
  try simp only [Act.put, List.setIfInBounds_toArray, List.set_cons_succ, List.set_cons_zero]
  clear hS
  have hS := hHeld
  clear hHeld
  clear hb
  refine wpAnyH_ready (rs := [12]) (by kernel_rfl) (by simp) ?_
  refine' (AllReadyH.cons ?hoc12zx0x11 (fun K hK => ?stc12zx0x11) AllReadyH.nil)
  case hoc12zx0x11 => (simp only [List.getElem?_toArray, List.getElem?_cons_succ, List.getElem?_cons_zero]; rfl)
  go_simp
  refine (SM.out _ _ Wzx0x11 NC.out ND2.out).mono ?_
  rintro e Wzx0x11x12 ⟨rfl, hb⟩
  have B0 := Lib.hid (B0.out.trans (hb.mono B0.out.size))
  have GR := Lib.hid ((hb.block _ (blk_lt GR.out)).trans GR.out)
  have NR := Lib.hid (NR.out.below hb)
  have NC := Lib.hid (NC.out.below hb)
  have GC := Lib.hid ((hb.block _ (blk_lt GC.out)).trans GC.out)
  have ND2 := Lib.hid (ND2.out.below hb)
  go_wp2_with fail
  refine hK.out _ _ (⟨hS.1.trans (hb.mono hS.1.size), (hb.block _ (blk_lt hS.2.1)).trans hS.2.1, (hb.block _ (blk_lt hS.2.2)).trans hS.2.2⟩) (fun hHeld => ?_)
  clear hK K
  try simp only [Act.put, List.setIfInBounds_toArray, List.set_cons_succ, List.set_cons_zero]
  clear hS
  have hS := hHeld
  clear hHeld
  clear hb
  refine' wpAnyH_take (i := 13) ?h1x13zx0x11x12 ?hsx13zx0x11x12 ?hfx13zx0x11x12 ?hrx13zx0x11x12 ?hQx13zx0x11x12 (Or.inl ⟨?hwx13zx0x11x12, ?hyx13zx0x11x12⟩) hS ?restx13zx0x11x12
  case h1x13zx0x11x12 => (simp only [List.getElem?_toArray, List.getElem?_cons_succ, List.getElem?_cons_zero]; rfl)
  case hsx13zx0x11x12 => kernel_rfl
  case hfx13zx0x11x12 => kernel_rfl
  case hrx13zx0x11x12 => kernel_rfl
  case hQx13zx0x11x12 => exact fun _ _ _ h => h
  case hwx13zx0x11x12 => rfl
  case hyx13zx0x11x12 =>
    intro W hW
    go_simp
    try with_reducible rfl
  simp only [Act.put, List.setIfInBounds_toArray, List.set_cons_succ, List.set_cons_zero]
  refine' wpAnyH_take (i := 14) ?h1x14zx0x11x12 ?hsx14zx0x11x12 ?hfx14zx0x11x12 ?hrx14zx0x11x12 ?hQx14zx0x11x12 (Or.inl ⟨?hwx14zx0x11x12, ?hyx14zx0x11x12⟩) hS ?restx14zx0x11x12
  case h1x14zx0x11x12 => (simp only [List.getElem?_toArray, List.getElem?_cons_succ, List.getElem?_cons_zero]; rfl)
  case hsx14zx0x11x12 => kernel_rfl
  case hfx14zx0x11x12 => kernel_rfl
  case hrx14zx0x11x12 => kernel_rfl
  case hQx14zx0x11x12 => exact fun _ _ _ h => h
  case hwx14zx0x11x12 => rfl
  case hyx14zx0x11x12 =>
    intro W hW
    go_simp
    try with_reducible rfl
  simp only [Act.put, List.setIfInBounds_toArray, List.set_cons_succ, List.set_cons_zero]
  refine' wpAnyH_take (i := 15) ?h1x15zx0x11x12 ?hsx15zx0x11x12 ?hfx15zx0x11x12 ?hrx15zx0x11x12 ?hQx15zx0x11x12 (Or.inr ⟨?hwx15zx0x11x12, rfl⟩) hS ?restx15zx0x11x12
  case h1x15zx0x11x12 => (simp only [List.getElem?_toArray, List.getElem?_cons_succ, List.getElem?_cons_zero]; rfl)
  case hsx15zx0x11x12 => kernel_rfl
  case hfx15zx0x11x12 => kernel_rfl
  case hrx15zx0x11x12 => kernel_rfl
  case hQx15zx0x11x12 => exact fun _ _ _ h => h
  case hwx15zx0x11x12 => rfl
  simp only [Act.put, List.setIfInBounds_toArray, List.set_cons_succ, List.set_cons_zero]
  refine' wpAnyH_take (i := 16) ?h1x16zx0x11x12 ?hsx16zx0x11x12 ?hfx16zx0x11x12 ?hrx16zx0x11x12 ?hQx16zx0x11x12 (Or.inr ⟨?hwx16zx0x11x12, rfl⟩) hS ?restx16zx0x11x12
  case h1x16zx0x11x12 => (simp only [List.getElem?_toArray, List.getElem?_cons_succ, List.getElem?_cons_zero]; rfl)
  case hsx16zx0x11x12 => kernel_rfl
  case hfx16zx0x11x12 => kernel_rfl
  case hrx16zx0x11x12 => kernel_rfl
  case hQx16zx0x11x12 => exact fun _ _ _ h => h
  case hwx16zx0x11x12 => rfl
  simp only [Act.put, List.setIfInBounds_toArray, List.set_cons_succ, List.set_cons_zero]
  refine' wpAnyH_take (i := 17) ?h1x17zx0x11x12 ?hsx17zx0x11x12 ?hfx17zx0x11x12 ?hrx17zx0x11x12 ?hQx17zx0x11x12 (Or.inr ⟨?hwx17zx0x11x12, rfl⟩) hS ?restx17zx0x11x12
  case h1x17zx0x11x12 => (simp only [List.getElem?_toArray, List.getElem?_cons_succ, List.getElem?_cons_zero]; rfl)
  case hsx17zx0x11x12 => kernel_rfl
  case hfx17zx0x11x12 => kernel_rfl
  case hrx17zx0x11x12 => kernel_rfl
  case hQx17zx0x11x12 => exact fun _ _ _ h => h
  case hwx17zx0x11x12 => rfl
  simp only [Act.put, List.setIfInBounds_toArray, List.set_cons_succ, List.set_cons_zero]
  refine' wpAnyH_take (i := 18) ?h1x18zx0x11x12 ?hsx18zx0x11x12 ?hfx18zx0x11x12 ?hrx18zx0x11x12 ?hQx18zx0x11x12 (Or.inr ⟨?hwx18zx0x11x12, rfl⟩) hS ?restx18zx0x11x12
  case h1x18zx0x11x12 => (simp only [List.getElem?_toArray, List.getElem?_cons_succ, List.getElem?_cons_zero]; rfl)
  case hsx18zx0x11x12 => kernel_rfl
  case hfx18zx0x11x12 => kernel_rfl
  case hrx18zx0x11x12 => kernel_rfl
  case hQx18zx0x11x12 => exact fun _ _ _ h => h
  case hwx18zx0x11x12 => rfl
  simp only [Act.put, List.setIfInBounds_toArray, List.set_cons_succ, List.set_cons_zero]
  refine' wpAnyH_take (i := 19) ?h1x19zx0x11x12 ?hsx19zx0x11x12 ?hfx19zx0x11x12 ?hrx19zx0x11x12 ?hQx19zx0x11x12 (Or.inr ⟨?hwx19zx0x11x12, rfl⟩) hS ?restx19zx0x11x12
  case h1x19zx0x11x12 => (simp only [List.getElem?_toArray, List.getElem?_cons_succ, List.getElem?_cons_zero]; rfl)
  case hsx19zx0x11x12 => kernel_rfl
  case hfx19zx0x11x12 => kernel_rfl
  case hrx19zx0x11x12 => kernel_rfl
  case hQx19zx0x11x12 => exact fun _ _ _ h => h
  case hwx19zx0x11x12 => rfl
  simp only [Act.put, List.setIfInBounds_toArray, List.set_cons_succ, List.set_cons_zero]
  refine' wpAnyH_take (i := 20) ?h1x20zx0x11x12 ?hsx20zx0x11x12 ?hfx20zx0x11x12 ?hrx20zx0x11x12 ?hQx20zx0x11x12 (Or.inr ⟨?hwx20zx0x11x12, rfl⟩) hS ?restx20zx0x11x12
  case h1x20zx0x11x12 => (simp only [List.getElem?_toArray, List.getElem?_cons_succ, List.getElem?_cons_zero]; rfl)
  case hsx20zx0x11x12 => kernel_rfl
  case hfx20zx0x11x12 => kernel_rfl
  case hrx20zx0x11x12 => kernel_rfl
  case hQx20zx0x11x12 => exact fun _ _ _ h => h
  case hwx20zx0x11x12 => rfl
  simp only [Act.put, List.setIfInBounds_toArray, List.set_cons_succ, List.set_cons_zero]
  refine' wpAnyH_take (i := 21) ?h1x21zx0x11x12 ?hsx21zx0x11x12 ?hfx21zx0x11x12 ?hrx21zx0x11x12 ?hQx21zx0x11x12 (Or.inr ⟨?hwx21zx0x11x12, rfl⟩) hS ?restx21zx0x11x12
  case h1x21zx0x11x12 => (simp only [List.getElem?_toArray, List.getElem?_cons_succ, List.getElem?_cons_zero]; rfl)
  case hsx21zx0x11x12 => kernel_rfl
  case hfx21zx0x11x12 => kernel_rfl
  case hrx21zx0x11x12 => kernel_rfl
  case hQx21zx0x11x12 => exact fun _ _ _ h => h
  case hwx21zx0x11x12 => rfl
  simp only [Act.put, List.setIfInBounds_toArray, List.set_cons_succ, List.set_cons_zero]
  refine' wpAnyH_take (i := 22) ?h1x22zx0x11x12 ?hsx22zx0x11x12 ?hfx22zx0x11x12 ?hrx22zx0x11x12 ?hQx22zx0x11x12 (Or.inl ⟨?hwx22zx0x11x12, ?hyx22zx0x11x12⟩) hS ?restx22zx0x11x12
  case h1x22zx0x11x12 => (simp only [List.getElem?_toArray, List.getElem?_cons_succ, List.getElem?_cons_zero]; rfl)
  case hsx22zx0x11x12 => kernel_rfl
  case hfx22zx0x11x12 => kernel_rfl
  case hrx22zx0x11x12 => kernel_rfl
  case hQx22zx0x11x12 => exact fun _ _ _ h => h
  case hwx22zx0x11x12 => rfl
  case hyx22zx0x11x12 =>
    intro W hW
    go_simp
    try with_reducible rfl
  simp only [Act.put, List.setIfInBounds_toArray, List.set_cons_succ, List.set_cons_zero]
  refine' wpAnyH_take (i := 23) ?h1x23zx0x11x12 ?hsx23zx0x11x12 ?hfx23zx0x11x12 ?hrx23zx0x11x12 ?hQx23zx0x11x12 (Or.inl ⟨?hwx23zx0x11x12, ?hyx23zx0x11x12⟩) hS ?restx23zx0x11x12
  case h1x23zx0x11x12 => (simp only [List.getElem?_toArray, List.getElem?_cons_succ, List.getElem?_cons_zero]; rfl)
  case hsx23zx0x11x12 => kernel_rfl
  case hfx23zx0x11x12 => kernel_rfl
  case hrx23zx0x11x12 => kernel_rfl
  case hQx23zx0x11x12 => exact fun _ _ _ h => h
  case hwx23zx0x11x12 => rfl
  case hyx23zx0x11x12 =>
    intro W hW
    go_simp
    try with_reducible rfl
  simp only [Act.put, List.setIfInBounds_toArray, List.set_cons_succ, List.set_cons_zero]
  refine' wpAnyH_take (i := 24) ?h1x24zx0x11x12 ?hsx24zx0x11x12 ?hfx24zx0x11x12 ?hrx24zx0x11x12 ?hQx24zx0x11x12 (Or.inl ⟨?hwx24zx0x11x12, ?hyx24zx0x11x12⟩) hS ?restx24zx0x11x12
  case h1x24zx0x11x12 => (simp only [List.getElem?_toArray, List.getElem?_cons_succ, List.getElem?_cons_zero]; rfl)
  case hsx24zx0x11x12 => kernel_rfl
  case hfx24zx0x11x12 => kernel_rfl
  case hrx24zx0x11x12 => kernel_rfl
  case hQx24zx0x11x12 => exact fun _ _ _ h => h
  case hwx24zx0x11x12 => rfl
  case hyx24zx0x11x12 =>
    intro W hW
    go_simp
    try with_reducible rfl
  simp only [Act.put, List.setIfInBounds_toArray, List.set_cons_succ, List.set_cons_zero]
  refine wpAnyH_done (by kernel_rfl) ?_ _
  go_wp2_with fail
  go_ret
  exact ⟨rfl, B0.out⟩
set_option maxRecDepth 100000 in
set_option maxHeartbeats 16000000 in
theorem puts_not (A : Array Value) (n : NV) (key : Int) (z : List Int) (w : World) (hv : ND w (.agg A) n) (hA : okA 0 A) (hz1 : z.length = 44) (hg : greatB n = false) (hlf : n.leaf = true) (hr : rightB n.leaf n.ks n.vs.length n.qs.length = true) (i : Nat) (hF : FindP n.ks key i false) (hk : 0 ≤ key ∧ key ≤ 18446744073709551615) (hz0 : ∀ x ∈ z, 0 ≤ x ∧ x ≤ 255) : Calls Try.prog 6 #[.agg A, .int .u64 key, .agg (val z).toArray] w (AliveP w) := by
  have IA := Lib.hid hA.info
  have IV := Lib.hid (i54 hz1)
  have AL := Lib.hid alive8
  have GT : Hid (∀ v W, ND W v n → Calls Try.prog 7 #[v] W fun e w' => e = .returned (.bool false) ∧ Below W.heap.size W w') := fun v W h => by have := great v n W h; rw [hg] at this; exact this
  have RT : Hid (∀ v W, ND W v n → Calls Try.prog 12 #[v] W fun e w' => e = .returned (.bool true) ∧ Below W.heap.size W w') := fun v W h => by have := rightN v n W h; rw [hr] at this; exact this
  have A0 : Hid (A[0]? = some (.bool true)) := by
    obtain ⟨K, V, Q, e, _⟩ := hv
    injection e with e
    show _ = _
    rw [e, hlf]; rfl
  obtain ⟨hwn, hl1, hri, hvl⟩ := right_parts hr
  rw [hlf, if_pos rfl] at hvl
  have hqs : n.qs = [] := by
    unfold rightB at hr
    simp only [Bool.and_eq_true, decide_eq_true_eq] at hr
    obtain ⟨⟨_, _, _, h4⟩, _⟩ := hr
    rw [hlf, if_pos rfl] at h4
    exact List.length_eq_zero_iff.1 h4
  have hs := great_small hg
  have h30 : n.ks.length ≤ 30 := by
    unfold greatB at hg
    simp only [Bool.or_eq_false_iff, decide_eq_false_iff_not] at hg
    omega
  have hi1 := hF.1
  have hbe := beh_lo hF
  have hb01 : beh i false = i := rfl
  obtain ⟨M, hM⟩ : ∃ M, M = putN n i (beh i false) key z := ⟨_, rfl⟩
  obtain ⟨C, hC⟩ : ∃ C, C = cutN M i (i + 1) := ⟨_, rfl⟩
  have mks : M.ks = putL n.ks i (beh i false) key := by rw [hM]; rfl
  have mvs : M.vs = putL n.vs i (beh i false) z := by rw [hM]; rfl
  have mkl : M.ks.length = i + 1 + (n.ks.length - beh i false) := by rw [mks]; exact putL_len _ _ _ _ hi1
  have mvl : M.vs.length = i + 1 + (n.vs.length - beh i false) := by rw [mvs]; exact putL_len _ _ _ _ (by omega)
  have ml : M.leaf = true := by rw [hM]; rfl
  have mq : M.qs = [] := by rw [hM]; show n.qs.take 0 ++ [] ++ n.qs.drop 0 = []; rw [hqs]; rfl
  have msm : small M := ⟨by omega, by omega, by rw [mq]; decide⟩
  have mwh : wholeB M = true := by unfold wholeB; rw [ml, if_pos rfl]; exact decide_eq_true (by omega)
  have cN : C = ⟨true, n.ks.take i ++ [] ++ n.ks.drop (beh i false), n.vs.take i ++ [] ++ n.vs.drop (beh i false), []⟩ := by rw [hC, hM]; exact cutN_put hi1 (by omega) hqs
  have PU : Hid (∀ W, ND W (.agg A) n → Calls Try.prog 22 #[.agg A, .int .u64 key, .agg (val z).toArray] W (NewN W M)) := fun W h => by
    rw [hM]
    exact put_false A n key z i W h hA hs hwn hlf hri hF hk hz0 hz1
  have FM : Hid (∀ v W, ND W v M → Calls Try.prog 23 #[v, .int .u64 key] W fun e w' => e = .returned (.tuple #[.int .i64 (i : Int), .bool true]) ∧ Below W.heap.size W w') := fun v W h => find v M key i true W h (by rw [mks]; exact put_rises hri hF) (by rw [mks]; exact put_find hF)
  have FN : Hid (∀ v W, ND W v n → Calls Try.prog 23 #[v, .int .u64 key] W fun e w' => e = .returned (.tuple #[.int .i64 (i : Int), .bool false]) ∧ Below W.heap.size W w') := fun v W h => find v n key i false W h hri hF
  have FC : Hid (∀ v W, ND W v C → Calls Try.prog 23 #[v, .int .u64 key] W fun e w' => e = .returned (.tuple #[.int .i64 (i : Int), .bool false]) ∧ Below W.heap.size W w') := fun v W h => find v C key i false W h (by rw [cN]; exact cut_rises hri hF) (by rw [cN]; exact cut_find hri hF)
  have CM : Hid (∀ X W, ND W (.agg X) M → okA 0 X → Calls Try.prog 24 #[.agg X, .int .i64 (i : Int)] W (NewN W C)) := fun X W h ok => by
    rw [hC]
    exact cut X M i W h ok msm mwh (by omega)
  have SM : Hid (∀ v u W, ND W v C → ND W u n → Calls Try.prog 18 #[v, u] W fun e w' => e = .returned (.bool true) ∧ Below W.heap.size W w') := fun v u W h k => by
    have := same v u C n W h k
    rw [show sameB C n = true by rw [cN, nv_cut hlf hqs]; simp [sameB]] at this
    exact this
  have VEQ : Hid (∀ W : World, (Op.equalIn 10000 54 (.agg (val z).toArray) (.agg (val z).toArray)).run Try.prog W = .ok true W) := fun W => by
    rw [valEq z z hz0 hz0 hz1 hz1 W, decide_eq_true rfl]
  have VAT : Hid (M.vs[i]? = some z) := by show _ = _; rw [mvs]; exact putL_at (by omega)
  have A1 : Hid (∃ x c, A[1]? = some (.slice x n.ks.length c)) := by obtain ⟨x, c, h, _⟩ := hv.keys; exact ⟨x, c, h⟩
  obtain ⟨xk, ck, a1⟩ := A1.out
  have A1 := Lib.hid a1
  have MK : Hid (M.ks.length = n.ks.length + 1) := by show _ = _; rw [mkl]; rw [hb01]; omega
  have MV : Hid (M.vs.length = n.ks.length + 1) := by show _ = _; rw [mvl, hvl]; rw [hb01]; omega
  have hz26 := z26
  obtain ⟨Z, hZ⟩ : ∃ Z : Array Value, Z = #[.bool false, .slice none 0 0, .slice none 0 0, .slice none 0 0] := ⟨_, rfl⟩
  rw [← hZ] at hz26
  have Z4 : Hid (Z.size = 4) := by show _ = _; rw [hZ]; rfl
  obtain ⟨CV, hCV⟩ : ∃ CV : Array Value, CV = (val z).toArray := ⟨_, rfl⟩
  rw [← hCV] at IV PU VEQ ⊢
  obtain ⟨W1, hW1⟩ : ∃ W1, W1 = (w.alloc (.cells A 26)).alloc (.cells CV 54) := ⟨_, rfl⟩
  have b0 : Below w.heap.size w (w.alloc (.cells A 26)) := (Below.refl _ _).alloc (Nat.le_refl _) _
  have b1 : Below w.heap.size w W1 := by rw [hW1]; exact b0.alloc (by simp) _
  have GR : Hid (W1.heap[w.heap.size]? = some (.cells A 26 (0, 0))) := by show _ = _; rw [hW1, Below.heap_alloc _ _ _ (by simp)]; exact heap_alloc_new w _
  have GV : Hid (W1.heap[w.heap.size + 1]? = some (.cells CV 54 (0, 0))) := by
    show _ = _
    rw [hW1]
    have := heap_alloc_new (w.alloc (.cells A 26)) (.cells CV 54)
    simpa using this
  have NR := Lib.hid (hv.below b1)
  have B0 := Lib.hid b1
  have HW1 := Lib.hid hW1
  have VRG : Hid (∀ W x cc, ES val 44 W (.slice x M.vs.length cc) M.vs → ∃ b o, x = some ⟨b, o, none⟩ ∧ b < W.heap.size ∧ W.rangeAt b (o + i * 44) CV.toList) := fun W x cc h => by
    obtain ⟨_, _, x', c', e, h4⟩ := h
    injection e with e1 _ _
    subst e1
    obtain ⟨b, o, h5, h6, h7⟩ := h4 i z VAT.out
    exact ⟨b, o, h5, h6, by rw [hCV]; exact h7⟩
  have iM : i < M.vs.length := (List.getElem?_eq_some_iff.1 VAT.out).1
  rw [MV.out] at iM
  have hl30 : (n.ks.length : Int) ≤ 30 := by omega
  have MVAL : Hid (∀ W X, ND W (.agg X) M → ∃ x c, X[2]? = some (.slice x M.vs.length c) ∧ ES val 44 W (.slice x M.vs.length c) M.vs) := fun W X h => by
    obtain ⟨K, V, Q, e, _, h2, _⟩ := h
    obtain ⟨x, c, rfl⟩ := h2.len
    injection e with e
    exact ⟨x, c, by rw [e]; rfl, h2⟩
  clear hW1 b0 b1 hv hA hz1 hCV h30 hg hlf hr hF hk hz0 hwn hl1 hri hvl hqs hs hi1 hbe hb01 mks mvs mkl mvl ml mq msm mwh cN hM hC a1 hZ
  generalize n.ks.length = l at *
  rw [MV.out] at VRG MVAL
  go_enter Try.func6, Try.ntmps6
  go_upto_region 1 with (fail)
  rw [← HW1.out]
  have cc := (cell_row GR.out 0).trans A0.out
  go_wp2_with (refine wpList_load_row rfl 26 (.tmp 3) rfl w.heap.size rfl 26 A (0, 0) _ GR.out Try.underlying26 rfl IA.out ?_)
  refine (GT.out _ _ NR.out).mono ?_
  rintro e w1 ⟨rfl, hb⟩
  have B0 := Lib.hid (B0.out.trans (hb.mono B0.out.size))
  have GR := Lib.hid ((hb.block _ (blk_lt GR.out)).trans GR.out)
  have GV := Lib.hid ((hb.block _ (blk_lt GV.out)).trans GV.out)
  have NR := Lib.hid (NR.out.below hb)
  clear hb
  clear cc
  have cc := (cell_row GR.out 0).trans A0.out
  go_wp2_with (refine wpList_load_met rfl 26 (.tmp 3) rfl w.heap.size rfl 26 A (0, 0) _ GR.out Try.underlying26 ⟨_, rfl⟩ IA.out ?_)
  refine (RT.out _ _ NR.out).mono ?_
  rintro e w2 ⟨rfl, hb⟩
  have B0 := Lib.hid (B0.out.trans (hb.mono B0.out.size))
  have GR := Lib.hid ((hb.block _ (blk_lt GR.out)).trans GR.out)
  have GV := Lib.hid ((hb.block _ (blk_lt GV.out)).trans GV.out)
  have NR := Lib.hid (NR.out.below hb)
  clear hb
  clear cc
  go_wp2_with (first | (refine wpList_load_row rfl 26 (.tmp 3) rfl w.heap.size rfl 26 A (0, 0) _ GR.out Try.underlying26 rfl IA.out ?_) | (refine wpList_load_row rfl 54 (.tmp 5) rfl (w.heap.size + 1) rfl 54 CV (0, 0) _ GV.out Try.underlying54 rfl IV.out ?_))
  refine (PU.out _ NR.out).mono ?_
  rintro e w3 ⟨XM, rfl, hm, hok, hb⟩
  have B0 := Lib.hid (B0.out.trans (hb.mono B0.out.size))
  have GR := Lib.hid ((hb.block _ (blk_lt GR.out)).trans GR.out)
  have GV := Lib.hid ((hb.block _ (blk_lt GV.out)).trans GV.out)
  have NR := Lib.hid (NR.out.below hb)
  have NM := Lib.hid hm
  have OM := Lib.hid (hok.le (Nat.zero_le _))
  clear hm hok
  clear hb
  have Sgm : Hid (Z.size = XM.size) := by show _ = _; rw [Z4.out, OM.out.four]
  have Igm := Lib.hid OM.out.info
  have Ogm := Lib.hid OM.out.one
  have GN := Lib.hid (heap_alloc_new w3 (.cells Z 26))
  have RW := Lib.hid (alloc_setRowT w3 Z XM 26 _ rfl)
  have hb : Below w3.heap.size w3 (w3.alloc (.cells XM 26)) := (Below.refl _ _).alloc (Nat.le_refl _) _
  have GM := Lib.hid (heap_alloc_new w3 (.cells XM 26))
  have B0 := Lib.hid (B0.out.trans (hb.mono B0.out.size))
  have GR := Lib.hid ((hb.block _ (blk_lt GR.out)).trans GR.out)
  have GV := Lib.hid ((hb.block _ (blk_lt GV.out)).trans GV.out)
  have NR := Lib.hid (NR.out.below hb)
  have NM := Lib.hid (NM.out.below hb)
  clear hb
  go_upto_region 4 with (refine wpList_store_row rfl 26 (.tmp 7) (.tmp 31) rfl w3.heap.size XM rfl rfl 26 Z GN.out Igm.out Sgm.out Ogm.out ?_)
  rw [RW.out]
  try simp only [Act.put]
  clear GN RW
  generalize w3.alloc (.cells XM 26) = w4 at *
  generalize w3.heap.size = gm at *
  go_wp2_with (refine wpList_load_row rfl 26 (.tmp 7) rfl gm rfl 26 XM (0, 0) _ GM.out Try.underlying26 rfl Igm.out ?_)
  refine (FM.out _ _ NM.out).mono ?_
  rintro e w5 ⟨rfl, hb⟩
  have B0 := Lib.hid (B0.out.trans (hb.mono B0.out.size))
  have GR := Lib.hid ((hb.block _ (blk_lt GR.out)).trans GR.out)
  have GV := Lib.hid ((hb.block _ (blk_lt GV.out)).trans GV.out)
  have NR := Lib.hid (NR.out.below hb)
  have NM := Lib.hid (NM.out.below hb)
  have GM := Lib.hid ((hb.block _ (blk_lt GM.out)).trans GM.out)
  clear hb
  obtain ⟨xm, cm, m2, esm⟩ := MVAL.out _ _ NM.out
  obtain ⟨bm, om, rfl, hlb, hrg⟩ := VRG.out _ _ _ esm
  obtain ⟨ym, dm, mk1, _⟩ := NM.out.keys
  rw [MK.out] at mk1
  have M1 := Lib.hid mk1
  have M2 := Lib.hid m2
  have LB0 := Lib.hid hlb
  have RG0 := Lib.hid hrg
  clear mk1 m2 esm hlb hrg MVAL VRG
  have GM0 := GM
  have GV0 := GV
  have hlt1 : (i : Int) < (l : Int) + 1 := by omega

  have hge2 : decide ((l : Int) + 1 ≤ (i : Int)) = false := decide_eq_false (by omega)
  have hw2 : IntKind.i64.wrap ((l : Int) + 1) = (l : Int) + 1 := IntWalk.i64_in _ (by omega)
  have he1 : ((l : Int) + 1 != (l : Int)) = true := by simp; omega
  go_wp2_with fail
  refine wp_region_held_drew (S := fun W => Below w5.heap.size w5 W) (by kernel_rfl) ((Below.refl _ _).drew) (fun hS => ?_)
  have hb0 : Below w5.heap.size w5 w5.drew := (Below.refl _ _).drew
  have qB0 := B0.out.trans (hb0.mono B0.out.size)
  have qGR := (hb0.block _ (blk_lt GR.out)).trans GR.out
  have qGV := (hb0.block _ (blk_lt GV.out)).trans GV.out
  have qNR := NR.out.below hb0
  have qGM := (hb0.block _ (blk_lt GM.out)).trans GM.out
  have qNM := NM.out.below hb0
  clear hb0 B0 GR GV NR GM NM
  generalize w5.drew = Wys at hS qB0 qGR qGV qNR qGM qNM ⊢
  have B0 := Lib.hid qB0
  have GR := Lib.hid qGR
  have GV := Lib.hid qGV
  have NR := Lib.hid qNR
  have GM := Lib.hid qGM
  have NM := Lib.hid qNM
  clear qB0 qGR qGV qNR qGM qNM
  refine' wpAnyH_take (i := 0) ?h1x0y ?hsx0y ?hfx0y ?hrx0y ?hQx0y (Or.inl ⟨?hwx0y, ?hyx0y⟩) hS ?restx0y
  case h1x0y => (simp only [List.getElem?_toArray, List.getElem?_cons_zero]; rfl)
  case hsx0y => kernel_rfl
  case hfx0y => kernel_rfl
  case hrx0y => kernel_rfl
  case hQx0y => exact fun _ _ _ h => h
  case hwx0y => rfl
  case hyx0y =>
    intro W hW
    go_simp
    try with_reducible rfl
  simp only [Act.put, List.setIfInBounds_toArray, List.set_cons_succ, List.set_cons_zero]
  refine' wpAnyH_take (i := 1) ?h1x1y ?hsx1y ?hfx1y ?hrx1y ?hQx1y (Or.inl ⟨?hwx1y, ?hyx1y⟩) hS ?restx1y
  case h1x1y => (simp only [List.getElem?_toArray, List.getElem?_cons_succ, List.getElem?_cons_zero]; rfl)
  case hsx1y => kernel_rfl
  case hfx1y => kernel_rfl
  case hrx1y => kernel_rfl
  case hQx1y => exact fun _ _ _ h => h
  case hwx1y => rfl
  case hyx1y =>
    intro W hW
    go_simp
    try with_reducible rfl
  simp only [Act.put, List.setIfInBounds_toArray, List.set_cons_succ, List.set_cons_zero]
  refine' wpAnyH_take (i := 2) ?h1x2y ?hsx2y ?hfx2y ?hrx2y ?hQx2y (Or.inl ⟨?hwx2y, ?hyx2y⟩) hS ?restx2y
  case h1x2y => (simp only [List.getElem?_toArray, List.getElem?_cons_succ, List.getElem?_cons_zero]; rfl)
  case hsx2y => kernel_rfl
  case hfx2y => kernel_rfl
  case hrx2y => kernel_rfl
  case hQx2y => exact fun _ _ _ h => h
  case hwx2y => rfl
  case hyx2y =>
    intro W hW
    go_simp
    try with_reducible rfl
  simp only [Act.put, List.setIfInBounds_toArray, List.set_cons_succ, List.set_cons_zero]
  refine' wpAnyH_take (i := 3) ?h1x3y ?hsx3y ?hfx3y ?hrx3y ?hQx3y (Or.inl ⟨?hwx3y, ?hyx3y⟩) hS ?restx3y
  case h1x3y => (simp only [List.getElem?_toArray, List.getElem?_cons_succ, List.getElem?_cons_zero]; rfl)
  case hsx3y => kernel_rfl
  case hfx3y => kernel_rfl
  case hrx3y => kernel_rfl
  case hQx3y => exact fun _ _ _ h => h
  case hwx3y => rfl
  case hyx3y =>
    intro W hW
    go_simp
    try with_reducible rfl
  simp only [Act.put, List.setIfInBounds_toArray, List.set_cons_succ, List.set_cons_zero]
  refine' wpAnyH_take (i := 4) ?h1x4y ?hsx4y ?hfx4y ?hrx4y ?hQx4y (Or.inl ⟨?hwx4y, ?hyx4y⟩) hS ?restx4y
  case h1x4y => (simp only [List.getElem?_toArray, List.getElem?_cons_succ, List.getElem?_cons_zero]; rfl)
  case hsx4y => kernel_rfl
  case hfx4y => kernel_rfl
  case hrx4y => kernel_rfl
  case hQx4y => exact fun _ _ _ h => h
  case hwx4y => rfl
  case hyx4y =>
    intro W hW
    go_simp
    try with_reducible rfl
  simp only [Act.put, List.setIfInBounds_toArray, List.set_cons_succ, List.set_cons_zero]
  refine' wpAnyH_take (i := 5) ?h1x5y ?hsx5y ?hfx5y ?hrx5y ?hQx5y (Or.inl ⟨?hwx5y, ?hyx5y⟩) hS ?restx5y
  case h1x5y => (simp only [List.getElem?_toArray, List.getElem?_cons_succ, List.getElem?_cons_zero]; rfl)
  case hsx5y => kernel_rfl
  case hfx5y => kernel_rfl
  case hrx5y => kernel_rfl
  case hQx5y => exact fun _ _ _ h => h
  case hwx5y => rfl
  case hyx5y =>
    intro W hW
    have ck := (hW.cell (p := ⟨gm, 2, none⟩) (blk_lt GM0.out)).trans ((cell_row GM0.out 2).trans M2.out)
    go_simp
    try with_reducible rfl
  simp only [Act.put, List.setIfInBounds_toArray, List.set_cons_succ, List.set_cons_zero]
  refine' wpAnyH_take (i := 6) ?h1x6y ?hsx6y ?hfx6y ?hrx6y ?hQx6y (Or.inl ⟨?hwx6y, ?hyx6y⟩) hS ?restx6y
  case h1x6y => (simp only [List.getElem?_toArray, List.getElem?_cons_succ, List.getElem?_cons_zero]; rfl)
  case hsx6y => kernel_rfl
  case hfx6y => kernel_rfl
  case hrx6y => kernel_rfl
  case hQx6y => exact fun _ _ _ h => h
  case hwx6y => rfl
  case hyx6y =>
    intro W hW
    go_simp
    try with_reducible rfl
  simp only [Act.put, List.setIfInBounds_toArray, List.set_cons_succ, List.set_cons_zero]
  refine' wpAnyH_take (i := 7) ?h1x7y ?hsx7y ?hfx7y ?hrx7y ?hQx7y (Or.inl ⟨?hwx7y, ?hyx7y⟩) hS ?restx7y
  case h1x7y => (simp only [List.getElem?_toArray, List.getElem?_cons_succ, List.getElem?_cons_zero]; rfl)
  case hsx7y => kernel_rfl
  case hfx7y => kernel_rfl
  case hrx7y => kernel_rfl
  case hQx7y => exact fun _ _ _ h => h
  case hwx7y => rfl
  case hyx7y =>
    intro W hW
    go_simp
    try with_reducible rfl
  simp only [Act.put, List.setIfInBounds_toArray, List.set_cons_succ, List.set_cons_zero]
  refine' wpAnyH_take (i := 8) ?h1x8y ?hsx8y ?hfx8y ?hrx8y ?hQx8y (Or.inl ⟨?hwx8y, ?hyx8y⟩) hS ?restx8y
  case h1x8y => (simp only [List.getElem?_toArray, List.getElem?_cons_succ, List.getElem?_cons_zero]; rfl)
  case hsx8y => kernel_rfl
  case hfx8y => kernel_rfl
  case hrx8y => kernel_rfl
  case hQx8y => exact fun _ _ _ h => h
  case hwx8y => rfl
  case hyx8y =>
    intro W hW
    go_simp
    try with_reducible rfl
  simp only [Act.put, List.setIfInBounds_toArray, List.set_cons_succ, List.set_cons_zero]
  refine' wpAnyH_take (i := 9) ?h1x9y ?hsx9y ?hfx9y ?hrx9y ?hQx9y (Or.inl ⟨?hwx9y, ?hyx9y⟩) hS ?restx9y
  case h1x9y => (simp only [List.getElem?_toArray, List.getElem?_cons_succ, List.getElem?_cons_zero]; rfl)
  case hsx9y => kernel_rfl
  case hfx9y => kernel_rfl
  case hrx9y => kernel_rfl
  case hQx9y => exact fun _ _ _ h => h
  case hwx9y => rfl
  case hyx9y =>
    intro W hW
    go_simp
    try with_reducible rfl
  simp only [Act.put, List.setIfInBounds_toArray, List.set_cons_succ, List.set_cons_zero]
  refine' wpAnyH_take (i := 10) ?h1x10y ?hsx10y ?hfx10y ?hrx10y ?hQx10y (Or.inl ⟨?hwx10y, ?hyx10y⟩) hS ?restx10y
  case h1x10y => (simp only [List.getElem?_toArray, List.getElem?_cons_succ, List.getElem?_cons_zero]; rfl)
  case hsx10y => kernel_rfl
  case hfx10y => kernel_rfl
  case hrx10y => kernel_rfl
  case hQx10y => exact fun _ _ _ h => h
  case hwx10y => rfl
  case hyx10y =>
    intro W hW
    go_simp
    try with_reducible rfl
  simp only [Act.put, List.setIfInBounds_toArray, List.set_cons_succ, List.set_cons_zero]
  refine' wpAnyH_take (i := 12) ?h1x12y ?hsx12y ?hfx12y ?hrx12y ?hQx12y (Or.inl ⟨?hwx12y, ?hyx12y⟩) hS ?restx12y
  case h1x12y => (simp only [List.getElem?_toArray, List.getElem?_cons_succ, List.getElem?_cons_zero]; rfl)
  case hsx12y => kernel_rfl
  case hfx12y => kernel_rfl
  case hrx12y => kernel_rfl
  case hQx12y => exact fun _ _ _ h => h
  case hwx12y => rfl
  case hyx12y =>
    intro W hW
    go_simp
    try with_reducible rfl
  simp only [Act.put, List.setIfInBounds_toArray, List.set_cons_succ, List.set_cons_zero]
  refine' wpAnyH_take (i := 15) ?h1x15y ?hsx15y ?hfx15y ?hrx15y ?hQx15y (yieldsIf_load_at ?hwx15y 54 (.tmp 5) ?hopx15y (w.heap.size + 1) 0 rfl CV _ (fun W hW => range_row ((hW.block _ (blk_lt GV0.out)).trans GV0.out)) Try.underlying54 rfl ?hix15y) hS ?restx15y
  case h1x15y => (simp only [List.getElem?_toArray, List.getElem?_cons_succ, List.getElem?_cons_zero]; rfl)
  case hopx15y => rfl
  case hsx15y => kernel_rfl
  case hfx15y => kernel_rfl
  case hrx15y => kernel_rfl
  case hQx15y => exact fun _ _ _ h => h
  case hwx15y => rfl
  case hix15y => exact IV.out
  simp only [Act.put, List.setIfInBounds_toArray, List.set_cons_succ, List.set_cons_zero]
  refine' wpAnyH_take (i := 11) ?h1x11y ?hsx11y ?hfx11y ?hrx11y ?hQx11y (Or.inl ⟨?hwx11y, ?hyx11y⟩) hS ?restx11y
  case h1x11y => (simp only [List.getElem?_toArray, List.getElem?_cons_succ, List.getElem?_cons_zero]; rfl)
  case hsx11y => kernel_rfl
  case hfx11y => kernel_rfl
  case hrx11y => kernel_rfl
  case hQx11y => exact fun _ _ _ h => h
  case hwx11y => rfl
  case hyx11y =>
    intro W hW
    have ck := (hW.cell (p := ⟨gm, 2, none⟩) (blk_lt GM0.out)).trans ((cell_row GM0.out 2).trans M2.out)
    go_simp
    try with_reducible rfl
  simp only [Act.put, List.setIfInBounds_toArray, List.set_cons_succ, List.set_cons_zero]
  refine' wpAnyH_take (i := 13) ?h1x13y ?hsx13y ?hfx13y ?hrx13y ?hQx13y (Or.inl ⟨?hwx13y, ?hyx13y⟩) hS ?restx13y
  case h1x13y => (simp only [List.getElem?_toArray, List.getElem?_cons_succ, List.getElem?_cons_zero]; rfl)
  case hsx13y => kernel_rfl
  case hfx13y => kernel_rfl
  case hrx13y => kernel_rfl
  case hQx13y => exact fun _ _ _ h => h
  case hwx13y => rfl
  case hyx13y =>
    intro W hW
    go_simp
    try with_reducible rfl
  simp only [Act.put, List.setIfInBounds_toArray, List.set_cons_succ, List.set_cons_zero]
  refine' wpAnyH_take (i := 14) ?h1x14y ?hsx14y ?hfx14y ?hrx14y ?hQx14y (yieldsIf_load_at ?hwx14y 54 (.tmp 51) ?hopx14y bm (om + i * 44) rfl CV _ (fun W hW => range_below RG0.out LB0.out hW) Try.underlying54 rfl ?hix14y) hS ?restx14y
  case h1x14y => (simp only [List.getElem?_toArray, List.getElem?_cons_succ, List.getElem?_cons_zero]; rfl)
  case hopx14y => rfl
  case hsx14y => kernel_rfl
  case hfx14y => kernel_rfl
  case hrx14y => kernel_rfl
  case hQx14y => exact fun _ _ _ h => h
  case hwx14y => rfl
  case hix14y => exact IV.out
  simp only [Act.put, List.setIfInBounds_toArray, List.set_cons_succ, List.set_cons_zero]
  refine' wpAnyH_take (i := 16) ?h1x16y ?hsx16y ?hfx16y ?hrx16y ?hQx16y (Or.inl ⟨?hwx16y, ?hyx16y⟩) hS ?restx16y
  case h1x16y => (simp only [List.getElem?_toArray, List.getElem?_cons_succ, List.getElem?_cons_zero]; rfl)
  case hsx16y => kernel_rfl
  case hfx16y => kernel_rfl
  case hrx16y => kernel_rfl
  case hQx16y => exact fun _ _ _ h => h
  case hwx16y => rfl
  case hyx16y =>
    intro W hW
    have veq := VEQ.out
    go_simp
    try with_reducible rfl
  simp only [Act.put, List.setIfInBounds_toArray, List.set_cons_succ, List.set_cons_zero]
  refine' wpAnyH_take (i := 17) ?h1x17y ?hsx17y ?hfx17y ?hrx17y ?hQx17y (Or.inl ⟨?hwx17y, ?hyx17y⟩) hS ?restx17y
  case h1x17y => (simp only [List.getElem?_toArray, List.getElem?_cons_succ, List.getElem?_cons_zero]; rfl)
  case hsx17y => kernel_rfl
  case hfx17y => kernel_rfl
  case hrx17y => kernel_rfl
  case hQx17y => exact fun _ _ _ h => h
  case hwx17y => rfl
  case hyx17y =>
    intro W hW
    go_simp
    try with_reducible rfl
  simp only [Act.put, List.setIfInBounds_toArray, List.set_cons_succ, List.set_cons_zero]
  refine wpAnyH_done (by kernel_rfl) ?_ _
  go_wp2_with (refine wpList_load_row rfl 26 (.tmp 3) rfl w.heap.size rfl 26 A (0, 0) _ GR.out Try.underlying26 rfl IA.out ?_)
  refine (FN.out _ _ NR.out).mono ?_
  rintro e w6 ⟨rfl, hb⟩
  have B0 := Lib.hid (B0.out.trans (hb.mono B0.out.size))
  have GR := Lib.hid ((hb.block _ (blk_lt GR.out)).trans GR.out)
  have GV := Lib.hid ((hb.block _ (blk_lt GV.out)).trans GV.out)
  have NR := Lib.hid (NR.out.below hb)
  have NM := Lib.hid (NM.out.below hb)
  have GM := Lib.hid ((hb.block _ (blk_lt GM.out)).trans GM.out)
  clear hb
  have c1 := (cell_row GM.out 1).trans M1.out
  have c0 := (cell_row GR.out 1).trans A1.out
  go_wp2_with (refine wpList_load_row rfl 26 (.tmp 7) rfl gm rfl 26 XM (0, 0) _ GM.out Try.underlying26 rfl Igm.out ?_)
  refine (CM.out XM _ NM.out OM.out).mono ?_
  rintro e w7 ⟨XC, rfl, hm, hok, hb⟩
  have B0 := Lib.hid (B0.out.trans (hb.mono B0.out.size))
  have GR := Lib.hid ((hb.block _ (blk_lt GR.out)).trans GR.out)
  have GV := Lib.hid ((hb.block _ (blk_lt GV.out)).trans GV.out)
  have NR := Lib.hid (NR.out.below hb)
  have NM := Lib.hid (NM.out.below hb)
  have GM := Lib.hid ((hb.block _ (blk_lt GM.out)).trans GM.out)
  have NC := Lib.hid hm
  have OC := Lib.hid (hok.le (Nat.zero_le _))
  clear hm hok c1 c0
  clear hb
  have Sgc : Hid (Z.size = XC.size) := by show _ = _; rw [Z4.out, OC.out.four]
  have Igc := Lib.hid OC.out.info
  have Ogc := Lib.hid OC.out.one
  have GN := Lib.hid (heap_alloc_new w7 (.cells Z 26))
  have RW := Lib.hid (alloc_setRowT w7 Z XC 26 _ rfl)
  have hb : Below w7.heap.size w7 (w7.alloc (.cells XC 26)) := (Below.refl _ _).alloc (Nat.le_refl _) _
  have GC := Lib.hid (heap_alloc_new w7 (.cells XC 26))
  have B0 := Lib.hid (B0.out.trans (hb.mono B0.out.size))
  have GR := Lib.hid ((hb.block _ (blk_lt GR.out)).trans GR.out)
  have GV := Lib.hid ((hb.block _ (blk_lt GV.out)).trans GV.out)
  have NR := Lib.hid (NR.out.below hb)
  have NM := Lib.hid (NM.out.below hb)
  have GM := Lib.hid ((hb.block _ (blk_lt GM.out)).trans GM.out)
  have NC := Lib.hid (NC.out.below hb)
  clear hb
  go_upto_region 11 with (refine wpList_store_row rfl 26 (.tmp 12) (.tmp 93) rfl w7.heap.size XC rfl rfl 26 Z GN.out Igc.out Sgc.out Ogc.out ?_)
  rw [RW.out]
  try simp only [Act.put]
  clear GN RW
  generalize w7.alloc (.cells XC 26) = w8 at *
  generalize w7.heap.size = gc at *
  go_wp2_with (refine wpList_load_row rfl 26 (.tmp 12) rfl gc rfl 26 XC (0, 0) _ GC.out Try.underlying26 rfl Igc.out ?_)
  refine (FC.out _ _ NC.out).mono ?_
  rintro e w9 ⟨rfl, hb⟩
  have B0 := Lib.hid (B0.out.trans (hb.mono B0.out.size))
  have GR := Lib.hid ((hb.block _ (blk_lt GR.out)).trans GR.out)
  have GV := Lib.hid ((hb.block _ (blk_lt GV.out)).trans GV.out)
  have NR := Lib.hid (NR.out.below hb)
  have NM := Lib.hid (NM.out.below hb)
  have GM := Lib.hid ((hb.block _ (blk_lt GM.out)).trans GM.out)
  have NC := Lib.hid (NC.out.below hb)
  have GC := Lib.hid ((hb.block _ (blk_lt GC.out)).trans GC.out)
  clear hb
  go_wp2_with fail
  refine wp_region_held_drew (S := fun W => Below w9.heap.size w9 W ∧ W.heap[w.heap.size]? = some (.cells A 26 (0, 0)) ∧ W.heap[gc]? = some (.cells XC 26 (0, 0))) (by kernel_rfl) (⟨(Below.refl _ _).drew, GR.out, GC.out⟩) (fun hS => ?_)
  have hb0 : Below w9.heap.size w9 w9.drew := (Below.refl _ _).drew
  have qB0 := B0.out.trans (hb0.mono B0.out.size)
  have qGR := (hb0.block _ (blk_lt GR.out)).trans GR.out
  have qNR := NR.out.below hb0
  have qNC := NC.out.below hb0
  have qGC := (hb0.block _ (blk_lt GC.out)).trans GC.out
  clear hb0 B0 GR NR NC GC
  generalize w9.drew = Wzs at hS qB0 qGR qNR qNC qGC ⊢
  have B0 := Lib.hid qB0
  have GR := Lib.hid qGR
  have NR := Lib.hid qNR
  have NC := Lib.hid qNC
  have GC := Lib.hid qGC
  clear qB0 qGR qNR qNC qGC
  refine wpAnyH_ready (rs := [0]) (by kernel_rfl) (by simp) ?_
  refine' (AllReadyH.cons ?hoc0z (fun K hK => ?stc0z) AllReadyH.nil)
  case hoc0z => (simp only [List.getElem?_toArray, List.getElem?_cons_zero]; rfl)
  go_simp
  refine (AL.out Wzs).mono ?_
  rintro e Wzx0 ⟨rfl, hb⟩
  have B0 := Lib.hid (B0.out.trans (hb.mono B0.out.size))
  have GR := Lib.hid ((hb.block _ (blk_lt GR.out)).trans GR.out)
  have NR := Lib.hid (NR.out.below hb)
  have NC := Lib.hid (NC.out.below hb)
  have GC := Lib.hid ((hb.block _ (blk_lt GC.out)).trans GC.out)
  go_wp2_with fail
  refine hK.out _ _ (⟨hS.1.trans (hb.mono hS.1.size), (hb.block _ (blk_lt hS.2.1)).trans hS.2.1, (hb.block _ (blk_lt hS.2.2)).trans hS.2.2⟩) (fun hHeld => ?_)
  clear hK K
  try simp only [Act.put, List.setIfInBounds_toArray, List.set_cons_succ, List.set_cons_zero]
  clear hS
  have hS := hHeld
  clear hHeld
  clear hb
  refine' wpAnyH_take (i := 1) ?h1x1zx0 ?hsx1zx0 ?hfx1zx0 ?hrx1zx0 ?hQx1zx0 (Or.inl ⟨?hwx1zx0, ?hyx1zx0⟩) hS ?restx1zx0
  case h1x1zx0 => (simp only [List.getElem?_toArray, List.getElem?_cons_succ, List.getElem?_cons_zero]; rfl)
  case hsx1zx0 => kernel_rfl
  case hfx1zx0 => kernel_rfl
  case hrx1zx0 => kernel_rfl
  case hQx1zx0 => exact fun _ _ _ h => h
  case hwx1zx0 => rfl
  case hyx1zx0 =>
    intro W hW
    go_simp
    try with_reducible rfl
  simp only [Act.put, List.setIfInBounds_toArray, List.set_cons_succ, List.set_cons_zero]
  refine' wpAnyH_take (i := 2) ?h1x2zx0 ?hsx2zx0 ?hfx2zx0 ?hrx2zx0 ?hQx2zx0 (Or.inl ⟨?hwx2zx0, ?hyx2zx0⟩) hS ?restx2zx0
  case h1x2zx0 => (simp only [List.getElem?_toArray, List.getElem?_cons_succ, List.getElem?_cons_zero]; rfl)
  case hsx2zx0 => kernel_rfl
  case hfx2zx0 => kernel_rfl
  case hrx2zx0 => kernel_rfl
  case hQx2zx0 => exact fun _ _ _ h => h
  case hwx2zx0 => rfl
  case hyx2zx0 =>
    intro W hW
    go_simp
    try with_reducible rfl
  simp only [Act.put, List.setIfInBounds_toArray, List.set_cons_succ, List.set_cons_zero]
  refine' wpAnyH_take (i := 3) ?h1x3zx0 ?hsx3zx0 ?hfx3zx0 ?hrx3zx0 ?hQx3zx0 (Or.inl ⟨?hwx3zx0, ?hyx3zx0⟩) hS ?restx3zx0
  case h1x3zx0 => (simp only [List.getElem?_toArray, List.getElem?_cons_succ, List.getElem?_cons_zero]; rfl)
  case hsx3zx0 => kernel_rfl
  case hfx3zx0 => kernel_rfl
  case hrx3zx0 => kernel_rfl
  case hQx3zx0 => exact fun _ _ _ h => h
  case hwx3zx0 => rfl
  case hyx3zx0 =>
    intro W hW
    go_simp
    try with_reducible rfl
  simp only [Act.put, List.setIfInBounds_toArray, List.set_cons_succ, List.set_cons_zero]
  refine' wpAnyH_take (i := 4) ?h1x4zx0 ?hsx4zx0 ?hfx4zx0 ?hrx4zx0 ?hQx4zx0 (Or.inl ⟨?hwx4zx0, ?hyx4zx0⟩) hS ?restx4zx0
  case h1x4zx0 => (simp only [List.getElem?_toArray, List.getElem?_cons_succ, List.getElem?_cons_zero]; rfl)
  case hsx4zx0 => kernel_rfl
  case hfx4zx0 => kernel_rfl
  case hrx4zx0 => kernel_rfl
  case hQx4zx0 => exact fun _ _ _ h => h
  case hwx4zx0 => rfl
  case hyx4zx0 =>
    intro W hW
    go_simp
    try with_reducible rfl
  simp only [Act.put, List.setIfInBounds_toArray, List.set_cons_succ, List.set_cons_zero]
  refine' wpAnyH_take (i := 5) ?h1x5zx0 ?hsx5zx0 ?hfx5zx0 ?hrx5zx0 ?hQx5zx0 (Or.inl ⟨?hwx5zx0, ?hyx5zx0⟩) hS ?restx5zx0
  case h1x5zx0 => (simp only [List.getElem?_toArray, List.getElem?_cons_succ, List.getElem?_cons_zero]; rfl)
  case hsx5zx0 => kernel_rfl
  case hfx5zx0 => kernel_rfl
  case hrx5zx0 => kernel_rfl
  case hQx5zx0 => exact fun _ _ _ h => h
  case hwx5zx0 => rfl
  case hyx5zx0 =>
    intro W hW
    go_simp
    try with_reducible rfl
  simp only [Act.put, List.setIfInBounds_toArray, List.set_cons_succ, List.set_cons_zero]
  refine' wpAnyH_take (i := 6) ?h1x6zx0 ?hsx6zx0 ?hfx6zx0 ?hrx6zx0 ?hQx6zx0 (Or.inl ⟨?hwx6zx0, ?hyx6zx0⟩) hS ?restx6zx0
  case h1x6zx0 => (simp only [List.getElem?_toArray, List.getElem?_cons_succ, List.getElem?_cons_zero]; rfl)
  case hsx6zx0 => kernel_rfl
  case hfx6zx0 => kernel_rfl
  case hrx6zx0 => kernel_rfl
  case hQx6zx0 => exact fun _ _ _ h => h
  case hwx6zx0 => rfl
  case hyx6zx0 =>
    intro W hW
    go_simp
    try with_reducible rfl
  simp only [Act.put, List.setIfInBounds_toArray, List.set_cons_succ, List.set_cons_zero]
  refine' wpAnyH_take (i := 7) ?h1x7zx0 ?hsx7zx0 ?hfx7zx0 ?hrx7zx0 ?hQx7zx0 (Or.inl ⟨?hwx7zx0, ?hyx7zx0⟩) hS ?restx7zx0
  case h1x7zx0 => (simp only [List.getElem?_toArray, List.getElem?_cons_succ, List.getElem?_cons_zero]; rfl)
  case hsx7zx0 => kernel_rfl
  case hfx7zx0 => kernel_rfl
  case hrx7zx0 => kernel_rfl
  case hQx7zx0 => exact fun _ _ _ h => h
  case hwx7zx0 => rfl
  case hyx7zx0 =>
    intro W hW
    go_simp
    try with_reducible rfl
  simp only [Act.put, List.setIfInBounds_toArray, List.set_cons_succ, List.set_cons_zero]
  refine' wpAnyH_take (i := 8) ?h1x8zx0 ?hsx8zx0 ?hfx8zx0 ?hrx8zx0 ?hQx8zx0 (Or.inr ⟨?hwx8zx0, rfl⟩) hS ?restx8zx0
  case h1x8zx0 => (simp only [List.getElem?_toArray, List.getElem?_cons_succ, List.getElem?_cons_zero]; rfl)
  case hsx8zx0 => kernel_rfl
  case hfx8zx0 => kernel_rfl
  case hrx8zx0 => kernel_rfl
  case hQx8zx0 => exact fun _ _ _ h => h
  case hwx8zx0 => rfl
  simp only [Act.put, List.setIfInBounds_toArray, List.set_cons_succ, List.set_cons_zero]
  refine' wpAnyH_take (i := 9) ?h1x9zx0 ?hsx9zx0 ?hfx9zx0 ?hrx9zx0 ?hQx9zx0 (Or.inr ⟨?hwx9zx0, rfl⟩) hS ?restx9zx0
  case h1x9zx0 => (simp only [List.getElem?_toArray, List.getElem?_cons_succ, List.getElem?_cons_zero]; rfl)
  case hsx9zx0 => kernel_rfl
  case hfx9zx0 => kernel_rfl
  case hrx9zx0 => kernel_rfl
  case hQx9zx0 => exact fun _ _ _ h => h
  case hwx9zx0 => rfl
  simp only [Act.put, List.setIfInBounds_toArray, List.set_cons_succ, List.set_cons_zero]
  refine' wpAnyH_take (i := 10) ?h1x10zx0 ?hsx10zx0 ?hfx10zx0 ?hrx10zx0 ?hQx10zx0 (Or.inr ⟨?hwx10zx0, rfl⟩) hS ?restx10zx0
  case h1x10zx0 => (simp only [List.getElem?_toArray, List.getElem?_cons_succ, List.getElem?_cons_zero]; rfl)
  case hsx10zx0 => kernel_rfl
  case hfx10zx0 => kernel_rfl
  case hrx10zx0 => kernel_rfl
  case hQx10zx0 => exact fun _ _ _ h => h
  case hwx10zx0 => rfl
  simp only [Act.put, List.setIfInBounds_toArray, List.set_cons_succ, List.set_cons_zero]
  refine' wpAnyH_take (i := 11) ?h1x11zx0 ?hsx11zx0 ?hfx11zx0 ?hrx11zx0 ?hQx11zx0 (Or.inr ⟨?hwx11zx0, rfl⟩) hS ?restx11zx0
  case h1x11zx0 => (simp only [List.getElem?_toArray, List.getElem?_cons_succ, List.getElem?_cons_zero]; rfl)
  case hsx11zx0 => kernel_rfl
  case hfx11zx0 => kernel_rfl
  case hrx11zx0 => kernel_rfl
  case hQx11zx0 => exact fun _ _ _ h => h
  case hwx11zx0 => rfl
  simp only [Act.put, List.setIfInBounds_toArray, List.set_cons_succ, List.set_cons_zero]
  refine' wpAnyH_take (i := 12) ?h1x12zx0 ?hsx12zx0 ?hfx12zx0 ?hrx12zx0 ?hQx12zx0 (Or.inr ⟨?hwx12zx0, rfl⟩) hS ?restx12zx0
  case h1x12zx0 => (simp only [List.getElem?_toArray, List.getElem?_cons_succ, List.getElem?_cons_zero]; rfl)
  case hsx12zx0 => kernel_rfl
  case hfx12zx0 => kernel_rfl
  case hrx12zx0 => kernel_rfl
  case hQx12zx0 => exact fun _ _ _ h => h
  case hwx12zx0 => rfl
  simp only [Act.put, List.setIfInBounds_toArray, List.set_cons_succ, List.set_cons_zero]
  refine' wpAnyH_take (i := 13) ?h1x13zx0 ?hsx13zx0 ?hfx13zx0 ?hrx13zx0 ?hQx13zx0 (Or.inl ⟨?hwx13zx0, ?hyx13zx0⟩) hS ?restx13zx0
  case h1x13zx0 => (simp only [List.getElem?_toArray, List.getElem?_cons_succ, List.getElem?_cons_zero]; rfl)
  case hsx13zx0 => kernel_rfl
  case hfx13zx0 => kernel_rfl
  case hrx13zx0 => kernel_rfl
  case hQx13zx0 => exact fun _ _ _ h => h
  case hwx13zx0 => rfl
  case hyx13zx0 =>
    intro W hW
    go_simp
    try with_reducible rfl
  simp only [Act.put, List.setIfInBounds_toArray, List.set_cons_succ, List.set_cons_zero]
  refine' wpAnyH_take (i := 14) ?h1x14zx0 ?hsx14zx0 ?hfx14zx0 ?hrx14zx0 ?hQx14zx0 (Or.inl ⟨?hwx14zx0, ?hyx14zx0⟩) hS ?restx14zx0
  case h1x14zx0 => (simp only [List.getElem?_toArray, List.getElem?_cons_succ, List.getElem?_cons_zero]; rfl)
  case hsx14zx0 => kernel_rfl
  case hfx14zx0 => kernel_rfl
  case hrx14zx0 => kernel_rfl
  case hQx14zx0 => exact fun _ _ _ h => h
  case hwx14zx0 => rfl
  case hyx14zx0 =>
    intro W hW
    go_simp
    try with_reducible rfl
  simp only [Act.put, List.setIfInBounds_toArray, List.set_cons_succ, List.set_cons_zero]
  refine' wpAnyH_take (i := 15) ?h1x15zx0 ?hsx15zx0 ?hfx15zx0 ?hrx15zx0 ?hQx15zx0 (Or.inl ⟨?hwx15zx0, ?hyx15zx0⟩) hS ?restx15zx0
  case h1x15zx0 => (simp only [List.getElem?_toArray, List.getElem?_cons_succ, List.getElem?_cons_zero]; rfl)
  case hsx15zx0 => kernel_rfl
  case hfx15zx0 => kernel_rfl
  case hrx15zx0 => kernel_rfl
  case hQx15zx0 => exact fun _ _ _ h => h
  case hwx15zx0 => rfl
  case hyx15zx0 =>
    intro W hW
    go_simp
    try with_reducible rfl
  simp only [Act.put, List.setIfInBounds_toArray, List.set_cons_succ, List.set_cons_zero]
  refine' wpAnyH_take (i := 16) ?h1x16zx0 ?hsx16zx0 ?hfx16zx0 ?hrx16zx0 ?hQx16zx0 (Or.inl ⟨?hwx16zx0, ?hyx16zx0⟩) hS ?restx16zx0
  case h1x16zx0 => (simp only [List.getElem?_toArray, List.getElem?_cons_succ, List.getElem?_cons_zero]; rfl)
  case hsx16zx0 => kernel_rfl
  case hfx16zx0 => kernel_rfl
  case hrx16zx0 => kernel_rfl
  case hQx16zx0 => exact fun _ _ _ h => h
  case hwx16zx0 => rfl
  case hyx16zx0 =>
    intro W hW
    go_simp
    try with_reducible rfl
  simp only [Act.put, List.setIfInBounds_toArray, List.set_cons_succ, List.set_cons_zero]
  refine' wpAnyH_take (i := 17) ?h1x17zx0 ?hsx17zx0 ?hfx17zx0 ?hrx17zx0 ?hQx17zx0 (Or.inl ⟨?hwx17zx0, ?hyx17zx0⟩) hS ?restx17zx0
  case h1x17zx0 => (simp only [List.getElem?_toArray, List.getElem?_cons_succ, List.getElem?_cons_zero]; rfl)
  case hsx17zx0 => kernel_rfl
  case hfx17zx0 => kernel_rfl
  case hrx17zx0 => kernel_rfl
  case hQx17zx0 => exact fun _ _ _ h => h
  case hwx17zx0 => rfl
  case hyx17zx0 =>
    intro W hW
    go_simp
    try with_reducible rfl
  simp only [Act.put, List.setIfInBounds_toArray, List.set_cons_succ, List.set_cons_zero]
  refine' wpAnyH_take (i := 18) ?h1x18zx0 ?hsx18zx0 ?hfx18zx0 ?hrx18zx0 ?hQx18zx0 (yieldsIf_load_at ?hwx18zx0 26 (.tmp 12) ?hopx18zx0 gc 0 rfl XC _ (fun W hW => range_row hW.2.2) Try.underlying26 rfl ?hix18zx0) hS ?restx18zx0
  case h1x18zx0 => (simp only [List.getElem?_toArray, List.getElem?_cons_succ, List.getElem?_cons_zero]; rfl)
  case hopx18zx0 => rfl
  case hsx18zx0 => kernel_rfl
  case hfx18zx0 => kernel_rfl
  case hrx18zx0 => kernel_rfl
  case hQx18zx0 => exact fun _ _ _ h => h
  case hwx18zx0 => rfl
  case hix18zx0 => exact Igc.out
  simp only [Act.put, List.setIfInBounds_toArray, List.set_cons_succ, List.set_cons_zero]
  refine' wpAnyH_take (i := 19) ?h1x19zx0 ?hsx19zx0 ?hfx19zx0 ?hrx19zx0 ?hQx19zx0 (yieldsIf_load_at ?hwx19zx0 26 (.tmp 3) ?hopx19zx0 w.heap.size 0 rfl A _ (fun W hW => range_row hW.2.1) Try.underlying26 rfl ?hix19zx0) hS ?restx19zx0
  case h1x19zx0 => (simp only [List.getElem?_toArray, List.getElem?_cons_succ, List.getElem?_cons_zero]; rfl)
  case hopx19zx0 => rfl
  case hsx19zx0 => kernel_rfl
  case hfx19zx0 => kernel_rfl
  case hrx19zx0 => kernel_rfl
  case hQx19zx0 => exact fun _ _ _ h => h
  case hwx19zx0 => rfl
  case hix19zx0 => exact IA.out
  simp only [Act.put, List.setIfInBounds_toArray, List.set_cons_succ, List.set_cons_zero]
  refine wpAnyH_ready (rs := [20]) (by kernel_rfl) (by simp) ?_
  refine' (AllReadyH.cons ?hoc20zx0 (fun K hK => ?stc20zx0) AllReadyH.nil)
  case hoc20zx0 => (simp only [List.getElem?_toArray, List.getElem?_cons_succ, List.getElem?_cons_zero]; rfl)
  go_simp
  refine (SM.out _ _ Wzx0 NC.out NR.out).mono ?_
  rintro e Wzx0x20 ⟨rfl, hb⟩
  have B0 := Lib.hid (B0.out.trans (hb.mono B0.out.size))
  have GR := Lib.hid ((hb.block _ (blk_lt GR.out)).trans GR.out)
  have NR := Lib.hid (NR.out.below hb)
  have NC := Lib.hid (NC.out.below hb)
  have GC := Lib.hid ((hb.block _ (blk_lt GC.out)).trans GC.out)
  go_wp2_with fail
  refine hK.out _ _ (⟨hS.1.trans (hb.mono hS.1.size), (hb.block _ (blk_lt hS.2.1)).trans hS.2.1, (hb.block _ (blk_lt hS.2.2)).trans hS.2.2⟩) (fun hHeld => ?_)
  clear hK K
  try simp only [Act.put, List.setIfInBounds_toArray, List.set_cons_succ, List.set_cons_zero]
  clear hS
  have hS := hHeld
  clear hHeld
  clear hb
  refine' wpAnyH_take (i := 21) ?h1x21zx0x20 ?hsx21zx0x20 ?hfx21zx0x20 ?hrx21zx0x20 ?hQx21zx0x20 (Or.inl ⟨?hwx21zx0x20, ?hyx21zx0x20⟩) hS ?restx21zx0x20
  case h1x21zx0x20 => (simp only [List.getElem?_toArray, List.getElem?_cons_succ, List.getElem?_cons_zero]; rfl)
  case hsx21zx0x20 => kernel_rfl
  case hfx21zx0x20 => kernel_rfl
  case hrx21zx0x20 => kernel_rfl
  case hQx21zx0x20 => exact fun _ _ _ h => h
  case hwx21zx0x20 => rfl
  case hyx21zx0x20 =>
    intro W hW
    go_simp
    try with_reducible rfl
  simp only [Act.put, List.setIfInBounds_toArray, List.set_cons_succ, List.set_cons_zero]
  refine' wpAnyH_take (i := 22) ?h1x22zx0x20 ?hsx22zx0x20 ?hfx22zx0x20 ?hrx22zx0x20 ?hQx22zx0x20 (Or.inl ⟨?hwx22zx0x20, ?hyx22zx0x20⟩) hS ?restx22zx0x20
  case h1x22zx0x20 => (simp only [List.getElem?_toArray, List.getElem?_cons_succ, List.getElem?_cons_zero]; rfl)
  case hsx22zx0x20 => kernel_rfl
  case hfx22zx0x20 => kernel_rfl
  case hrx22zx0x20 => kernel_rfl
  case hQx22zx0x20 => exact fun _ _ _ h => h
  case hwx22zx0x20 => rfl
  case hyx22zx0x20 =>
    intro W hW
    go_simp
    try with_reducible rfl
  simp only [Act.put, List.setIfInBounds_toArray, List.set_cons_succ, List.set_cons_zero]
  refine' wpAnyH_take (i := 23) ?h1x23zx0x20 ?hsx23zx0x20 ?hfx23zx0x20 ?hrx23zx0x20 ?hQx23zx0x20 (Or.inl ⟨?hwx23zx0x20, ?hyx23zx0x20⟩) hS ?restx23zx0x20
  case h1x23zx0x20 => (simp only [List.getElem?_toArray, List.getElem?_cons_succ, List.getElem?_cons_zero]; rfl)
  case hsx23zx0x20 => kernel_rfl
  case hfx23zx0x20 => kernel_rfl
  case hrx23zx0x20 => kernel_rfl
  case hQx23zx0x20 => exact fun _ _ _ h => h
  case hwx23zx0x20 => rfl
  case hyx23zx0x20 =>
    intro W hW
    go_simp
    try with_reducible rfl
  simp only [Act.put, List.setIfInBounds_toArray, List.set_cons_succ, List.set_cons_zero]
  refine' wpAnyH_take (i := 24) ?h1x24zx0x20 ?hsx24zx0x20 ?hfx24zx0x20 ?hrx24zx0x20 ?hQx24zx0x20 (Or.inl ⟨?hwx24zx0x20, ?hyx24zx0x20⟩) hS ?restx24zx0x20
  case h1x24zx0x20 => (simp only [List.getElem?_toArray, List.getElem?_cons_succ, List.getElem?_cons_zero]; rfl)
  case hsx24zx0x20 => kernel_rfl
  case hfx24zx0x20 => kernel_rfl
  case hrx24zx0x20 => kernel_rfl
  case hQx24zx0x20 => exact fun _ _ _ h => h
  case hwx24zx0x20 => rfl
  case hyx24zx0x20 =>
    intro W hW
    go_simp
    try with_reducible rfl
  simp only [Act.put, List.setIfInBounds_toArray, List.set_cons_succ, List.set_cons_zero]
  refine wpAnyH_done (by kernel_rfl) ?_ _
  go_wp2_with fail
  go_ret
  exact ⟨rfl, B0.out⟩
end Go.Proofs.Ytnifaldgofmciaa
