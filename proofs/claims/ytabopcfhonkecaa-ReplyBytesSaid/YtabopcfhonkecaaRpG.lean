/-
  The contract of the document's Decode. Condition: the bytes are at most 10000.
-/
import Derived.Test.YtabopcfhonkecaaRpF
namespace Go.Proofs.Ytabopcfhonkecaa
open Go.RowKit
theorem size62 (W : World) : (sizeOf (Try.prog.elem 23)).run Try.prog W = .ok 1 W := by kernel_rfl
/-- 'b[l:h]' of a slice of bytes. -/
theorem sl_lh (b o n cap l h : Nat) (zl zh : Int) (hzl : zl = l) (hzh : zh = h) (h1 : l ≤ h) (h2 : h ≤ cap) (hc : l < cap) (W : World) : (Instr.slice 23 (.slice (some ⟨b, o, none⟩) n cap) (some (.int .i64 zl)) (some (.int .i64 zh)) none).run Try.prog W =
    .ok (.slice (some ⟨b, o + l, none⟩) (h - l) (cap - l)) W := by
  subst hzl hzh
  rw [run_slice_lh W 23 (some ⟨b, o, none⟩) n cap (by kernel_rfl) .i64 .i64 l h (by omega) (by omega) (by omega), size62]
  simp only [Result.andThen, sliced, Int.toNat_natCast, Nat.mul_one]
  have e : cap ≠ l := by omega
  simp [e, add_plain]
/-- 'b[n:]' of a slice of bytes. -/
theorem sl_from (b o l cap n : Nat) (hn : n ≤ l) (W : World) : (Instr.slice 23 (.slice (some ⟨b, o, none⟩) l cap) (some (.int .i64 n)) none none).run Try.prog W =
    .ok (.slice (some (if cap = n then ⟨b, o, none⟩ else ⟨b, o + n, none⟩)) (l - n) (cap - n)) W := by
  rw [run_slice_l W 23 (some ⟨b, o, none⟩) l cap (by kernel_rfl) .i64 n (by omega) (by omega), size62]
  simp only [Result.andThen, sliced, Int.toNat_natCast, Nat.mul_one]
  by_cases e : cap = n
  · simp [e]
  · simp [e, add_plain]
theorem sl_to (b o n cap h : Nat) (h2 : h ≤ cap) (W : World) : (Instr.slice 23 (.slice (some ⟨b, o, none⟩) n cap) none (some (.int .i64 h)) none).run Try.prog W = .ok (.slice (some ⟨b, o, none⟩) h cap) W := by
  rw [run_slice_h W 23 _ n cap (by kernel_rfl) .i64 h (by omega) (by omega), size62]
  simp [Result.andThen, sliced, add_plain]
theorem sees_sub {w : World} {b o n c : Nat} {xs : List Int} (h : Sees w (.slice (some ⟨b, o, none⟩) n c) xs) (k m c' : Nat) (hk : k + m ≤ xs.length) (hm : m ≠ 0) (hc : m ≤ c') (hcm : c' ≤ maxLen) : Sees w (.slice (some ⟨b, o + k, none⟩) m c') ((xs.drop k).take m) := by
  have hl : ((xs.drop k).take m).length = m := by rw [List.length_take, List.length_drop]; omega
  refine ⟨(h.1.drop k).take m, .inr (.inr ⟨b, o + k, c', by rw [hl], fun e => by rw [e] at hl; simp at hl; omega, by omega, hcm, fun i hi => ?_⟩)⟩
  rw [hl] at hi
  rw [Nat.add_assoc, h.cell (k + i) (by omega)]
  unfold nth
  rw [List.getD_eq_getElem?_getD, List.getD_eq_getElem?_getD, List.getElem?_take_of_lt hi, List.getElem?_drop]
theorem sees_rest {w : World} {b o c pos : Nat} {xs : List Int} (h : Sees w (.slice (some ⟨b, o, none⟩) xs.length c) xs) (hcl : xs.length ≤ c) (hcm : c ≤ maxLen) (hp : pos ≤ xs.length) (a : Addr) (ha : pos < xs.length → a = ⟨b, o + pos, none⟩) : Sees w (.slice (some a) (xs.length - pos) (c - pos)) (xs.drop pos) := by
  by_cases hlt : pos < xs.length
  · rw [ha hlt]
    have h2 := sees_sub h pos (xs.length - pos) (c - pos) (by omega) (by omega) (by omega) (by omega)
    rw [List.take_of_length_le (by rw [List.length_drop]; omega)] at h2
    exact h2
  · have e : xs.drop pos = [] := List.drop_of_length_le (by omega)
    have e2 : xs.length - pos = 0 := by omega
    rw [e, e2]
    exact ⟨fun _ h => by simp at h, .inr (.inl ⟨a, _, rfl, rfl, by omega⟩)⟩
theorem sees_pos {w : World} {v : Value} {xs : List Int} (h : Sees w v xs) (hn : xs ≠ []) : ∃ b o cap, v = .slice (some ⟨b, o, none⟩) xs.length cap ∧ b < w.heap.size := by
  rcases h with ⟨_, ⟨_, rfl⟩ | ⟨_, _, _, rfl, _⟩ | ⟨b, o, cap, rfl, h3, _, _, h6⟩⟩
  · exact absurd rfl hn
  · exact absurd rfl hn
  · exact ⟨b, o, cap, rfl, World.block_lt_of_cell? w _ (h6 0 (List.length_pos_iff.2 hn))⟩
theorem form6 {xs : List Int} (h : 6 ≤ xs.length) : ∃ a b c d e f r, xs = a :: b :: c :: d :: e :: f :: r := by
  match xs, h with
  | a :: b :: c :: d :: e :: f :: r, _ => exact ⟨a, b, c, d, e, f, r, rfl⟩
theorem rd_short {xs : List Int} (h : xs.length < 6) : decB xs = false := by
  have hz : (rZ xs).2 = true := by
    have hy : (rY xs).2 = true := by
      by_cases h2 : xs.length < 2
      · have hx : (rX xs).2 = true := by simp [rX, shrt]; omega
        simp [rY, hx, shrt]
      · have e2 : shrt xs.length false 2 = false := by simp [shrt]; omega
        simp only [rY, rX, rst, e2]
        simp [shrt]
        omega
    simp [rZ, hy, shrt]
  unfold decB endE
  rw [if_pos hz]
  rfl
theorem rd_long {xs : List Int} (h : 6 ≤ xs.length) : rE xs = numI (xs.take 2) ∧ rN xs = numI ((xs.drop 2).take 4) ∧ rD xs = xs.drop 6 ∧ endE (rZ xs).1 (rZ xs).2 = 0 := by
  have e2 : shrt xs.length false 2 = false := by simp [shrt]; omega
  have hx : rX xs = (xs.drop 2, false) := by
    simp only [rX, rst, e2]
    simp
  have e4 : shrt (xs.drop 2).length false 4 = false := by simp [shrt]; omega
  have hy : rY xs = (xs.drop 6, false) := by
    simp only [rY, rst, hx, e4]
    simp
  have e0 : shrt (xs.drop 6).length false (xs.drop 6).length = false := by simp [shrt]
  refine ⟨?_, ?_, ?_, ?_⟩
  · have hl : (xs.take 2).length = 2 := by rw [List.length_take]; omega
    have hg : got xs false 2 = xs.take 2 := by simp only [got, e2]; simp
    have hv := rx.getV_all (xs.take 2)
    rw [hl] at hv
    unfold rE
    rw [hg]
    exact hv
  · have hl : ((xs.drop 2).take 4).length = 4 := by rw [List.length_take, List.length_drop]; omega
    have hg : got (xs.drop 2) false 4 = (xs.drop 2).take 4 := by simp only [got, e4]; simp
    have hv := rx.getV_all ((xs.drop 2).take 4)
    rw [hl] at hv
    unfold rN
    rw [hx]
    show getV (got (xs.drop 2) false 4) 0 4 = _
    rw [hg]
    exact hv
  · unfold rD
    rw [hy]
    show got (xs.drop 6) false ((xs.drop 6).length : Int) = _
    simp only [got, e0]
    simp
    exact List.take_of_length_le (by rw [List.length_drop]; omega)
  · unfold rZ
    rw [hy]
    show endE (rst (xs.drop 6) false ((xs.drop 6).length : Int)) (shrt (xs.drop 6).length false ((xs.drop 6).length : Int)) = 0
    rw [e0]
    simp only [rst, e0]
    simp [endE]
    omega
theorem numI_two (a b : Int) : numI [a, b] = a * 256 + b := by simp [numI]
theorem numI_four (a b c d : Int) : numI [a, b, c, d] = ((a * 256 + b) * 256 + c) * 256 + d := by simp [numI]
theorem may_rP {xs : List Int} (hb : Byt xs) (h : 6 ≤ xs.length) : mayB (rP xs) = (decide (xs.length ≤ 4102) && decide (nth xs 2 ≤ 127)) := by
  obtain ⟨h1, h2, h3, _⟩ := rd_long h
  unfold mayB
  show (decide (0 ≤ rE xs) && (decide (rE xs ≤ 65535) && (decide (0 ≤ rN xs) && (decide (rN xs ≤ 2147483647) && decide ((rD xs).length ≤ 4096))))) = _
  rw [h1, h2, h3, List.length_drop]
  obtain ⟨a, b, c, d, e, f, r, rfl⟩ := form6 h
  have ba := hb a (by simp)
  have bb := hb b (by simp)
  have bc := hb c (by simp)
  have bd := hb d (by simp)
  have be := hb e (by simp)
  have bf := hb f (by simp)
  show (decide (0 ≤ numI [a, b]) && (decide (numI [a, b] ≤ 65535) && (decide (0 ≤ numI [c, d, e, f]) && (decide (numI [c, d, e, f] ≤ 2147483647) && _)))) = (_ && decide (c ≤ 127))
  rw [numI_two, numI_four, decide_eq_true (by omega), decide_eq_true (by omega), decide_eq_true (by omega), Bool.true_and, Bool.true_and, Bool.true_and, Bool.and_comm]
  congr 1
  · exact decide_eq_decide.2 (by omega)
  · exact decide_eq_decide.2 (by omega)
theorem dec_long {xs : List Int} (hb : Byt xs) (h : 6 ≤ xs.length) : decB xs = (decide (xs.length ≤ 4102) && decide (nth xs 2 ≤ 127)) := by
  unfold decB
  rw [(rd_long h).2.2.2, may_rP hb h]
  rfl
def DecS (w : World) (xs : List Int) (e : Ending) (w' : World) : Prop :=
  ∃ dv, e = .returned (.tuple #[.agg (rc (decP xs) dv).toArray, .int .i64 (decE xs)]) ∧ Sees w' dv (decP xs).d ∧ Below w.heap.size w w'
set_option maxRecDepth 100000 in
set_option maxHeartbeats 4000000 in
theorem decodeD_a (v : Value) (xs : List Int) (hl : xs.length ≤ 10000) (w : World) (hs : Sees w v xs) (h6 : xs.length < 6) : Calls Try.prog 12 #[v] w (DecS w xs) := by
  have hok : decB xs = false := rd_short h6
  obtain ⟨Z, hZ⟩ : ∃ Z, Z = (rc ⟨0, 0, []⟩ (.slice none 0 0)).toArray := ⟨_, rfl⟩
  have z := z30
  have i0 := i30 ⟨0, 0, []⟩ (.slice none 0 0)
  have bz := b30z
  have oz : (rc ⟨0, 0, []⟩ (.slice none 0 0)).toArray.all (·.oneCell') = true := rc_one rfl
  rw [← hZ] at z i0 bz oz
  have FIN : Hid (∀ W, Below w.heap.size w W → DecS w xs (.returned (.tuple #[.agg Z, .int .i64 3])) W) := fun W hb => by
    unfold DecS decP decE
    rw [hok, hZ]
    exact ⟨.slice none 0 0, rfl, sees_nil _, hb⟩
  have HZ := Lib.hid z
  have BZ := Lib.hid bz
  have IZ := Lib.hid i0
  have OZ := Lib.hid oz
  obtain ⟨w1, hw1⟩ : ∃ w1, w1 = w.alloc (.cells Z 30) := ⟨_, rfl⟩
  have B1 : Hid (Below w.heap.size w w1) := by show Below _ _ _; rw [hw1]; exact (Below.refl _ _).alloc (Nat.le_refl _) _
  have G1 : Hid (w1.heap[w.heap.size]? = some (.cells Z 30 (0, 0))) := by show _ = _; rw [hw1]; exact heap_alloc_new w _
  have HW1 := Lib.hid hw1
  obtain ⟨x, cp, rfl, h63⟩ := hs.form
  clear hok hw1 hs z i0 bz oz hZ
  generalize DecS w xs = PP at FIN ⊢
  generalize xs.length = l at *
  have d1 : decide (l < 6) = true := decide_eq_true h6
  have d2 : (l : Int) < 6 := by omega
  go_enter Try.func12, Try.ntmps12
  go_upto_region 1 with (first | (refine wpList_alloc_z rfl 30 rfl (HZ.out w) ?_; rw [← HW1.out]))
  go_wp2_with (first | (refine wpList_build0 rfl 30 rfl (BZ.out w1) ?_; refine wpList_store_row rfl 30 (.tmp 2) (.tmp 18) rfl w.heap.size Z rfl rfl 30 Z G1.out IZ.out rfl OZ.out ?_))
  have YZ : Hid (_ = some (Obj.cells Z 30 (0, 0))) := setRow_heap _ w.heap.size Z Z _ _ G1.out
  refine bodyPost_ret (v := .tuple #[.agg Z, .int .i64 3]) (results_ct rfl _ _ w.heap.size 30 Z (0, 0) _ (.int .i64 3) rfl rfl YZ.out Try.underlying30 ⟨_, rfl⟩ IZ.out) rfl ?_
  exact FIN.out _ (B1.out.trans (below_row _ _ (Nat.le_refl _)))
set_option maxRecDepth 100000 in
set_option maxHeartbeats 4000000 in
theorem decodeD_b (v : Value) (xs : List Int) (hl : xs.length ≤ 10000) (w : World) (hs : Sees w v xs) (h6 : 6 ≤ xs.length) (h7 : 4102 < xs.length) : Calls Try.prog 12 #[v] w (DecS w xs) := by
  have hok : decB xs = false := by rw [dec_long hs.1 h6, decide_eq_false (by omega)]; rfl
  obtain ⟨Z, hZ⟩ : ∃ Z, Z = (rc ⟨0, 0, []⟩ (.slice none 0 0)).toArray := ⟨_, rfl⟩
  have z := z30
  have i0 := i30 ⟨0, 0, []⟩ (.slice none 0 0)
  have bz := b30z
  have oz : (rc ⟨0, 0, []⟩ (.slice none 0 0)).toArray.all (·.oneCell') = true := rc_one rfl
  rw [← hZ] at z i0 bz oz
  have FIN : Hid (∀ W, Below w.heap.size w W → DecS w xs (.returned (.tuple #[.agg Z, .int .i64 3])) W) := fun W hb => by
    unfold DecS decP decE
    rw [hok, hZ]
    exact ⟨.slice none 0 0, rfl, sees_nil _, hb⟩
  have HZ := Lib.hid z
  have BZ := Lib.hid bz
  have IZ := Lib.hid i0
  have OZ := Lib.hid oz
  obtain ⟨w1, hw1⟩ : ∃ w1, w1 = w.alloc (.cells Z 30) := ⟨_, rfl⟩
  have B1 : Hid (Below w.heap.size w w1) := by show Below _ _ _; rw [hw1]; exact (Below.refl _ _).alloc (Nat.le_refl _) _
  have G1 : Hid (w1.heap[w.heap.size]? = some (.cells Z 30 (0, 0))) := by show _ = _; rw [hw1]; exact heap_alloc_new w _
  have HW1 := Lib.hid hw1
  obtain ⟨x, cp, rfl, h63⟩ := hs.form
  clear hok hw1 hs z i0 bz oz hZ
  generalize DecS w xs = PP at FIN ⊢
  generalize xs.length = l at *
  have d1 : decide (l < 6) = false := decide_eq_false (by omega)
  have d3 : decide (4102 < l) = true := decide_eq_true h7
  have d4 : (4102 : Int) < (l : Int) := by omega
  have d2 : ¬ (l : Int) < 6 := by omega
  go_enter Try.func12, Try.ntmps12
  go_upto_region 1 with (first | (refine wpList_alloc_z rfl 30 rfl (HZ.out w) ?_; rw [← HW1.out]))
  go_wp2_with (first | (refine wpList_build0 rfl 30 rfl (BZ.out w1) ?_; refine wpList_store_row rfl 30 (.tmp 2) (.tmp 18) rfl w.heap.size Z rfl rfl 30 Z G1.out IZ.out rfl OZ.out ?_))
  have YZ : Hid (_ = some (Obj.cells Z 30 (0, 0))) := setRow_heap _ w.heap.size Z Z _ _ G1.out
  refine bodyPost_ret (v := .tuple #[.agg Z, .int .i64 3]) (results_ct rfl _ _ w.heap.size 30 Z (0, 0) _ (.int .i64 3) rfl rfl YZ.out Try.underlying30 ⟨_, rfl⟩ IZ.out) rfl ?_
  exact FIN.out _ (B1.out.trans (below_row _ _ (Nat.le_refl _)))
set_option maxRecDepth 100000 in
set_option maxHeartbeats 4000000 in
theorem decodeD_c (v : Value) (xs : List Int) (hl : xs.length ≤ 10000) (w : World) (hs : Sees w v xs) (h6 : 6 ≤ xs.length) (h7 : xs.length ≤ 4102) (h8 : 127 < nth xs 2) : Calls Try.prog 12 #[v] w (DecS w xs) := by
  have hok : decB xs = false := by rw [dec_long hs.1 h6, decide_eq_false (by omega : ¬ nth xs 2 ≤ 127), Bool.and_false]
  obtain ⟨Z, hZ⟩ : ∃ Z, Z = (rc ⟨0, 0, []⟩ (.slice none 0 0)).toArray := ⟨_, rfl⟩
  have z := z30
  have i0 := i30 ⟨0, 0, []⟩ (.slice none 0 0)
  have bz := b30z
  have oz : (rc ⟨0, 0, []⟩ (.slice none 0 0)).toArray.all (·.oneCell') = true := rc_one rfl
  rw [← hZ] at z i0 bz oz
  have FIN : Hid (∀ W, Below w.heap.size w W → DecS w xs (.returned (.tuple #[.agg Z, .int .i64 3])) W) := fun W hb => by
    unfold DecS decP decE
    rw [hok, hZ]
    exact ⟨.slice none 0 0, rfl, sees_nil _, hb⟩
  have HZ := Lib.hid z
  have BZ := Lib.hid bz
  have IZ := Lib.hid i0
  have OZ := Lib.hid oz
  obtain ⟨w1, hw1⟩ : ∃ w1, w1 = w.alloc (.cells Z 30) := ⟨_, rfl⟩
  have B1 : Hid (Below w.heap.size w w1) := by show Below _ _ _; rw [hw1]; exact (Below.refl _ _).alloc (Nat.le_refl _) _
  have G1 : Hid (w1.heap[w.heap.size]? = some (.cells Z 30 (0, 0))) := by show _ = _; rw [hw1]; exact heap_alloc_new w _
  have HW1 := Lib.hid hw1
  obtain ⟨b, o, cap, rfl, hlt⟩ := sees_pos hs (by intro e; rw [e] at h6; simp at h6)
  have hc2 := hs.cell 2 (by omega)
  obtain ⟨hcl, hcm⟩ : xs.length ≤ cap ∧ cap ≤ maxLen := by
    rcases hs with ⟨_, ⟨h, _⟩ | ⟨_, _, _, h, _⟩ | ⟨_, _, _, h, _, h4, h5, _⟩⟩
    · cases h
    · rw [h] at h6; simp at h6
    · cases h; exact ⟨h4, h5⟩
  have cc : w1.cell? ⟨b, o + 2, none⟩ = some (.int .u8 (nth xs 2)) := (B1.out.cell hlt).trans hc2
  have d1 : decide (xs.length < 6) = false := decide_eq_false (by omega)
  have d2 : ¬ (xs.length : Int) < 6 := by omega
  have d3 : decide (4102 < xs.length) = false := decide_eq_false (by omega)
  have d4 : ¬ (4102 : Int) < (xs.length : Int) := by omega
  have d5 : (2 : Int) < (xs.length : Int) := by omega
  have d6 : ((xs.length : Nat) : Int) ≤ 4102 := by omega
  clear hok hw1 hs z i0 bz oz hZ hlt hc2 hcl hcm h6 h7
  generalize DecS w xs = PP at FIN ⊢
  generalize xs.length = l at *
  generalize nth xs 2 = n2 at *
  go_enter Try.func12, Try.ntmps12
  go_upto_region 1 with (first | (refine wpList_alloc_z rfl 30 rfl (HZ.out w) ?_; rw [← HW1.out]))
  go_wp2_with (first | (refine wpList_build0 rfl 30 rfl (BZ.out w1) ?_; refine wpList_store_row rfl 30 (.tmp 2) (.tmp 18) rfl w.heap.size Z rfl rfl 30 Z G1.out IZ.out rfl OZ.out ?_))
  have YZ : Hid (_ = some (Obj.cells Z 30 (0, 0))) := setRow_heap _ w.heap.size Z Z _ _ G1.out
  refine bodyPost_ret (v := .tuple #[.agg Z, .int .i64 3]) (results_ct rfl _ _ w.heap.size 30 Z (0, 0) _ (.int .i64 3) rfl rfl YZ.out Try.underlying30 ⟨_, rfl⟩ IZ.out) rfl ?_
  exact FIN.out _ (B1.out.trans (below_row _ _ (Nat.le_refl _)))
set_option maxRecDepth 100000 in
set_option maxHeartbeats 4000000 in
theorem decodeD_d (v : Value) (xs : List Int) (hl : xs.length ≤ 10000) (w : World) (hs : Sees w v xs) (h6 : 6 ≤ xs.length) (h7 : xs.length ≤ 4102) (h8 : nth xs 2 ≤ 127) : Calls Try.prog 12 #[v] w (DecS w xs) := by
  have hok : decB xs = true := by rw [dec_long hs.1 h6, decide_eq_true h7, decide_eq_true h8]; rfl
  obtain ⟨Z, hZ⟩ : ∃ Z, Z = (rc ⟨0, 0, []⟩ (.slice none 0 0)).toArray := ⟨_, rfl⟩
  have z := z30
  have i0 := i30 ⟨0, 0, []⟩ (.slice none 0 0)
  have bz := b30z
  have oz : (rc ⟨0, 0, []⟩ (.slice none 0 0)).toArray.all (·.oneCell') = true := rc_one rfl
  rw [← hZ] at z i0 bz oz
  have FIN : Hid (∀ W dv, Below w.heap.size w W → Sees W dv (xs.drop 6) → DecS w xs (.returned (.tuple #[.agg (rc ⟨numI (xs.take 2), numI ((xs.drop 2).take 4), xs.drop 6⟩ dv).toArray, .int .i64 0])) W) := fun W dv hb hd => by
    obtain ⟨r1, r2, r3, _⟩ := rd_long h6
    unfold DecS decP decE
    rw [if_pos hok, if_pos hok]
    refine ⟨dv, ?_, ?_, hb⟩
    · unfold rP
      rw [r1, r2, r3]
    · show Sees W dv (rD xs)
      rw [r3]
      exact hd
  have HZ := Lib.hid z
  have BZ := Lib.hid bz
  have IZ := Lib.hid i0
  have OZ := Lib.hid oz
  obtain ⟨w1, hw1⟩ : ∃ w1, w1 = w.alloc (.cells Z 30) := ⟨_, rfl⟩
  have B1 : Hid (Below w.heap.size w w1) := by show Below _ _ _; rw [hw1]; exact (Below.refl _ _).alloc (Nat.le_refl _) _
  have G1 : Hid (w1.heap[w.heap.size]? = some (.cells Z 30 (0, 0))) := by show _ = _; rw [hw1]; exact heap_alloc_new w _
  have HW1 := Lib.hid hw1
  obtain ⟨b, o, cap, rfl, hlt⟩ := sees_pos hs (by intro e; rw [e] at h6; simp at h6)
  have hc2 := hs.cell 2 (by omega)
  obtain ⟨hcl, hcm⟩ : xs.length ≤ cap ∧ cap ≤ maxLen := by
    rcases hs with ⟨_, ⟨h, _⟩ | ⟨_, _, _, h, _⟩ | ⟨_, _, _, h, _, h4, h5, _⟩⟩
    · cases h
    · rw [h] at h6; simp at h6
    · cases h; exact ⟨h4, h5⟩
  have cc : w1.cell? ⟨b, o + 2, none⟩ = some (.int .u8 (nth xs 2)) := (B1.out.cell hlt).trans hc2
  have d1 : decide (xs.length < 6) = false := decide_eq_false (by omega)
  have d2 : ¬ (xs.length : Int) < 6 := by omega
  have d3 : decide (4102 < xs.length) = false := decide_eq_false (by omega)
  have d4 : ¬ (4102 : Int) < (xs.length : Int) := by omega
  have d5 : (2 : Int) < (xs.length : Int) := by omega
  have d6 : ((xs.length : Nat) : Int) ≤ 4102 := by omega
  have S1 : Hid (∀ W, Below w.heap.size w W → Sees W (.slice (some ⟨b, o, none⟩) 2 cap) (xs.take 2)) := fun W h => by
    have := sees_sub (hs.below h) 0 2 cap (by omega) (by omega) (by omega) hcm
    simpa using this
  have NB1 : Hid (∀ W, Below w.heap.size w W → Calls Try.prog 29 #[.slice (some ⟨b, o, none⟩) 2 cap] W fun e w' => e = .returned (.int .u64 (numI (xs.take 2))) ∧ W = w') := fun W h => octetPuts.number _ _ (by rw [List.length_take]; omega) W (S1.out W h)
  have NB2 : Hid (∀ W, Below w.heap.size w W → Calls Try.prog 29 #[.slice (some ⟨b, o + 2, none⟩) 4 (cap - 2)] W fun e w' => e = .returned (.int .u64 (numI ((xs.drop 2).take 4))) ∧ W = w') := fun W h => octetPuts.number _ _ (by rw [List.length_take]; omega) W (sees_sub (hs.below h) 2 4 (cap - 2) (by omega) (by omega) (by omega) (by omega))
  have SL1 : Hid (∀ W, (Instr.slice 23 (.slice (some ⟨b, o, none⟩) xs.length cap) none (some (.int .i64 2)) none).run Try.prog W = .ok (.slice (some ⟨b, o, none⟩) 2 cap) W) := fun W => sl_to b o xs.length cap 2 (by omega) W
  have SL2 : Hid (∀ W, (Instr.slice 23 (.slice (some ⟨b, o, none⟩) xs.length cap) (some (.int .i64 2)) (some (.int .i64 6)) none).run Try.prog W = .ok (.slice (some ⟨b, o + 2, none⟩) 4 (cap - 2)) W) := fun W => sl_lh b o xs.length cap 2 6 2 6 rfl rfl (by omega) (by omega) (by omega) W
  obtain ⟨A, hA⟩ : ∃ A, A = (if cap = 6 then (⟨b, o, none⟩ : Addr) else ⟨b, o + 6, none⟩) := ⟨_, rfl⟩
  have SL3 : Hid (∀ W, (Instr.slice 23 (.slice (some ⟨b, o, none⟩) xs.length cap) (some (.int .i64 6)) none none).run Try.prog W = .ok (.slice (some A) (xs.length - 6) (cap - 6)) W) := fun W => by
    have h := sl_from b o xs.length cap 6 h6 W
    rw [← hA] at h
    exact h
  have S3 : Hid (∀ W, Below w.heap.size w W → Sees W (.slice (some A) (xs.length - 6) (cap - 6)) (xs.drop 6)) := fun W h => sees_rest (hs.below h) hcl hcm h6 A (fun h6 => by rw [hA, if_neg (by omega)])
  have hb1 : Byt (xs.take 2) := hs.1.take 2
  have hb2 : Byt ((xs.drop 2).take 4) := (hs.1.drop 2).take 4
  have WE : Hid (IntKind.i64.wrap (numI (xs.take 2)) = numI (xs.take 2)) := by
    have h := numI_bd 2 (xs.take 2) (by rw [List.length_take]; omega) hb1
    show _ = _; rw [IntKind.wrap_i64]; omega
  have WN : Hid (IntKind.i64.wrap (numI ((xs.drop 2).take 4)) = numI ((xs.drop 2).take 4)) := by
    have h := numI_bd 4 ((xs.drop 2).take 4) (by rw [List.length_take, List.length_drop]; omega) hb2
    show _ = _; rw [IntKind.wrap_i64]; omega
  have IC : Hid ((Try.prog.info? 30).map (·.size) = some (#[Value.int .i64 (numI (xs.take 2)), .int .i64 (numI ((xs.drop 2).take 4)), .slice (some A) (xs.length - 6) (cap - 6)] : Array Value).size) := i30 ⟨numI (xs.take 2), numI ((xs.drop 2).take 4), xs.drop 6⟩ (.slice (some A) (xs.length - 6) (cap - 6))
  have OC : Hid ((#[Value.int .i64 (numI (xs.take 2)), .int .i64 (numI ((xs.drop 2).take 4)), .slice (some A) (xs.length - 6) (cap - 6)] : Array Value).all (·.oneCell') = true) := by
    show _ = _
    exact rc_one (p := ⟨numI (xs.take 2), numI ((xs.drop 2).take 4), xs.drop 6⟩) (dv := .slice (some A) (xs.length - 6) (cap - 6)) rfl
  have FIN2 : Hid (∀ W, Below w.heap.size w W → DecS w xs (.returned (.tuple #[.agg #[Value.int .i64 (numI (xs.take 2)), .int .i64 (numI ((xs.drop 2).take 4)), .slice (some A) (xs.length - 6) (cap - 6)], .int .i64 0])) W) := fun W hb => FIN.out W _ hb (S3.out W hb)
  have IZC : Hid (Z.size = (#[Value.int .i64 (numI (xs.take 2)), .int .i64 (numI ((xs.drop 2).take 4)), .slice (some A) (xs.length - 6) (cap - 6)] : Array Value).size) := Option.some.inj (IZ.out.symm.trans IC.out)
  clear FIN S1 S3 hA hb1 hb2 hok hw1 hs z i0 bz oz hZ hlt hc2 hcl hcm h6 h7
  generalize DecS w xs = PP at FIN2 ⊢
  generalize xs.length = l at *
  generalize nth xs 2 = n2 at *
  generalize numI (xs.take 2) = m2 at *
  generalize numI ((xs.drop 2).take 4) = m4 at *
  obtain ⟨l6, hl6⟩ : ∃ l6, l6 = l - 6 := ⟨_, rfl⟩
  obtain ⟨c6, hc6⟩ : ∃ c6, c6 = cap - 6 := ⟨_, rfl⟩
  obtain ⟨c2, hc2⟩ : ∃ c2, c2 = cap - 2 := ⟨_, rfl⟩
  rw [← hl6, ← hc6] at SL3 IC OC FIN2 IZC
  rw [← hc2] at SL2 NB2
  clear hl6 hc6 hc2
  go_enter Try.func12, Try.ntmps12
  go_upto_region 1 with (first | (refine wpList_alloc_z rfl 30 rfl (HZ.out w) ?_; rw [← HW1.out]))
  go_upto_region 3 with (fail)
  clear cc
  have GR := G1
  refine wp_region_held_drew (S := fun W => Below w.heap.size w W) (by kernel_rfl) (B1.out.drew) (fun hS => ?_)
  have hb0 : Below w1.heap.size w1 w1.drew := (Below.refl _ _).drew
  have qGR := (hb0.block _ (blk_lt GR.out)).trans GR.out
  clear hb0 GR
  generalize w1.drew = Wrs at hS qGR ⊢
  have GR := Lib.hid qGR
  clear qGR
  refine' wpAnyH_take (i := 0) ?h1x0r ?hsx0r ?hfx0r ?hrx0r ?hQx0r (Or.inl ⟨?hwx0r, ?hyx0r⟩) hS ?restx0r
  case h1x0r => (simp only [List.getElem?_toArray, List.getElem?_cons_zero]; rfl)
  case hsx0r => kernel_rfl
  case hfx0r => kernel_rfl
  case hrx0r => kernel_rfl
  case hQx0r => exact fun _ _ _ h => h
  case hwx0r => rfl
  case hyx0r =>
    intro W hW
    go_simp
    try with_reducible rfl
  simp only [Act.put, List.setIfInBounds_toArray, List.set_cons_succ, List.set_cons_zero]
  refine' wpAnyH_take (i := 4) ?h1x4r ?hsx4r ?hfx4r ?hrx4r ?hQx4r (Or.inl ⟨?hwx4r, ?hyx4r⟩) hS ?restx4r
  case h1x4r => (simp only [List.getElem?_toArray, List.getElem?_cons_succ, List.getElem?_cons_zero]; rfl)
  case hsx4r => kernel_rfl
  case hfx4r => kernel_rfl
  case hrx4r => kernel_rfl
  case hQx4r => exact fun _ _ _ h => h
  case hwx4r => rfl
  case hyx4r =>
    intro W hW
    go_simp
    try with_reducible rfl
  simp only [Act.put, List.setIfInBounds_toArray, List.set_cons_succ, List.set_cons_zero]
  refine' wpAnyH_take (i := 8) ?h1x8r ?hsx8r ?hfx8r ?hrx8r ?hQx8r (Or.inl ⟨?hwx8r, ?hyx8r⟩) hS ?restx8r
  case h1x8r => (simp only [List.getElem?_toArray, List.getElem?_cons_succ, List.getElem?_cons_zero]; rfl)
  case hsx8r => kernel_rfl
  case hfx8r => kernel_rfl
  case hrx8r => kernel_rfl
  case hQx8r => exact fun _ _ _ h => h
  case hwx8r => rfl
  case hyx8r =>
    intro W hW
    go_simp
    try with_reducible rfl
  simp only [Act.put, List.setIfInBounds_toArray, List.set_cons_succ, List.set_cons_zero]
  refine' wpAnyH_take (i := 1) ?h1x1r ?hsx1r ?hfx1r ?hrx1r ?hQx1r (Or.inl ⟨?hwx1r, ?hyx1r⟩) hS ?restx1r
  case h1x1r => (simp only [List.getElem?_toArray, List.getElem?_cons_succ, List.getElem?_cons_zero]; rfl)
  case hsx1r => kernel_rfl
  case hfx1r => kernel_rfl
  case hrx1r => kernel_rfl
  case hQx1r => exact fun _ _ _ h => h
  case hwx1r => rfl
  case hyx1r =>
    intro W hW
    have dd := SL1.out W
    go_simp
    try with_reducible rfl
  simp only [Act.put, List.setIfInBounds_toArray, List.set_cons_succ, List.set_cons_zero]
  refine' wpAnyH_take (i := 5) ?h1x5r ?hsx5r ?hfx5r ?hrx5r ?hQx5r (Or.inl ⟨?hwx5r, ?hyx5r⟩) hS ?restx5r
  case h1x5r => (simp only [List.getElem?_toArray, List.getElem?_cons_succ, List.getElem?_cons_zero]; rfl)
  case hsx5r => kernel_rfl
  case hfx5r => kernel_rfl
  case hrx5r => kernel_rfl
  case hQx5r => exact fun _ _ _ h => h
  case hwx5r => rfl
  case hyx5r =>
    intro W hW
    have dd := SL2.out W
    go_simp
    try with_reducible rfl
  simp only [Act.put, List.setIfInBounds_toArray, List.set_cons_succ, List.set_cons_zero]
  refine' wpAnyH_take (i := 9) ?h1x9r ?hsx9r ?hfx9r ?hrx9r ?hQx9r (Or.inl ⟨?hwx9r, ?hyx9r⟩) hS ?restx9r
  case h1x9r => (simp only [List.getElem?_toArray, List.getElem?_cons_succ, List.getElem?_cons_zero]; rfl)
  case hsx9r => kernel_rfl
  case hfx9r => kernel_rfl
  case hrx9r => kernel_rfl
  case hQx9r => exact fun _ _ _ h => h
  case hwx9r => rfl
  case hyx9r =>
    intro W hW
    have dd := SL3.out W
    go_simp
    try with_reducible rfl
  simp only [Act.put, List.setIfInBounds_toArray, List.set_cons_succ, List.set_cons_zero]
  refine wpAnyH_ready (rs := [2]) (by kernel_rfl) (by simp) ?_
  refine' (AllReadyH.cons ?hoc2r (fun K hK => ?stc2r) AllReadyH.nil)
  case hoc2r => (simp only [List.getElem?_toArray, List.getElem?_cons_succ, List.getElem?_cons_zero]; rfl)
  go_simp
  refine (NB1.out Wrs hS).mono ?_
  rintro e w' ⟨rfl, rfl⟩
  go_wp2_with fail
  refine hK.out _ _ hS (fun hHeld => ?_)
  clear hK K
  try simp only [Act.put, List.setIfInBounds_toArray, List.set_cons_succ, List.set_cons_zero]
  clear hS
  have hS := hHeld
  clear hHeld
  refine' wpAnyH_take (i := 3) ?h1x3rx2 ?hsx3rx2 ?hfx3rx2 ?hrx3rx2 ?hQx3rx2 (Or.inl ⟨?hwx3rx2, ?hyx3rx2⟩) hS ?restx3rx2
  case h1x3rx2 => (simp only [List.getElem?_toArray, List.getElem?_cons_succ, List.getElem?_cons_zero]; rfl)
  case hsx3rx2 => kernel_rfl
  case hfx3rx2 => kernel_rfl
  case hrx3rx2 => kernel_rfl
  case hQx3rx2 => exact fun _ _ _ h => h
  case hwx3rx2 => rfl
  case hyx3rx2 =>
    intro W hW
    have dd := WE.out
    go_simp
    try with_reducible rfl
  simp only [Act.put, List.setIfInBounds_toArray, List.set_cons_succ, List.set_cons_zero]
  refine wpAnyH_ready (rs := [6]) (by kernel_rfl) (by simp) ?_
  refine' (AllReadyH.cons ?hoc6rx2 (fun K hK => ?stc6rx2) AllReadyH.nil)
  case hoc6rx2 => (simp only [List.getElem?_toArray, List.getElem?_cons_succ, List.getElem?_cons_zero]; rfl)
  go_simp
  refine (NB2.out Wrs hS).mono ?_
  rintro e w' ⟨rfl, rfl⟩
  go_wp2_with fail
  refine hK.out _ _ hS (fun hHeld => ?_)
  clear hK K
  try simp only [Act.put, List.setIfInBounds_toArray, List.set_cons_succ, List.set_cons_zero]
  clear hS
  have hS := hHeld
  clear hHeld
  refine' wpAnyH_take (i := 7) ?h1x7rx2x6 ?hsx7rx2x6 ?hfx7rx2x6 ?hrx7rx2x6 ?hQx7rx2x6 (Or.inl ⟨?hwx7rx2x6, ?hyx7rx2x6⟩) hS ?restx7rx2x6
  case h1x7rx2x6 => (simp only [List.getElem?_toArray, List.getElem?_cons_succ, List.getElem?_cons_zero]; rfl)
  case hsx7rx2x6 => kernel_rfl
  case hfx7rx2x6 => kernel_rfl
  case hrx7rx2x6 => kernel_rfl
  case hQx7rx2x6 => exact fun _ _ _ h => h
  case hwx7rx2x6 => rfl
  case hyx7rx2x6 =>
    intro W hW
    have dd := WN.out
    go_simp
    try with_reducible rfl
  simp only [Act.put, List.setIfInBounds_toArray, List.set_cons_succ, List.set_cons_zero]
  refine' wpAnyH_take (i := 10) ?h1x10rx2x6 ?hsx10rx2x6 ?hfx10rx2x6 ?hrx10rx2x6 ?hQx10rx2x6 (Or.inl ⟨?hwx10rx2x6, ?hyx10rx2x6⟩) hS ?restx10rx2x6
  case h1x10rx2x6 => (simp only [List.getElem?_toArray, List.getElem?_cons_succ, List.getElem?_cons_zero]; rfl)
  case hsx10rx2x6 => kernel_rfl
  case hfx10rx2x6 => kernel_rfl
  case hrx10rx2x6 => kernel_rfl
  case hQx10rx2x6 => exact fun _ _ _ h => h
  case hwx10rx2x6 => rfl
  case hyx10rx2x6 =>
    intro W hW
    go_simp
    try with_reducible rfl
  simp only [Act.put, List.setIfInBounds_toArray, List.set_cons_succ, List.set_cons_zero]
  refine wpAnyH_ready (rs := [11]) (by kernel_rfl) (by simp) ?_
  refine' (AllReadyH.cons ?hoc11rx2x6 (fun K hK => ?stc11rx2x6) AllReadyH.nil)
  case hoc11rx2x6 => (simp only [List.getElem?_toArray, List.getElem?_cons_succ, List.getElem?_cons_zero]; rfl)
  refine step_store_row rfl 30 (.tmp 2) (.tmp 29) rfl w.heap.size #[.int .i64 m2, .int .i64 m4, .slice (some A) l6 c6] rfl rfl 30 _ GR.out IC.out IZC.out OC.out ?_
  refine hK.out _ _ (hS.trans (below_row _ _ (Nat.le_refl _))) (fun hHeld => ?_)
  clear hK K
  simp only [Act.put]
  have qGR := setRow_heap _ w.heap.size _ #[.int .i64 m2, .int .i64 m4, .slice (some A) l6 c6] _ _ GR.out
  clear hS
  have hS := hHeld
  clear hHeld
  clear GR
  generalize Wrs.setRow w.heap.size #[.int .i64 m2, .int .i64 m4, .slice (some A) l6 c6] = Wrx2x6x11 at *
  have GR := Lib.hid qGR
  clear qGR
  refine' wpAnyH_take (i := 12) ?h1x12rx2x6x11 ?hsx12rx2x6x11 ?hfx12rx2x6x11 ?hrx12rx2x6x11 ?hQx12rx2x6x11 (Or.inl ⟨?hwx12rx2x6x11, ?hyx12rx2x6x11⟩) hS ?restx12rx2x6x11
  case h1x12rx2x6x11 => (simp only [List.getElem?_toArray, List.getElem?_cons_succ, List.getElem?_cons_zero]; rfl)
  case hsx12rx2x6x11 => kernel_rfl
  case hfx12rx2x6x11 => kernel_rfl
  case hrx12rx2x6x11 => kernel_rfl
  case hQx12rx2x6x11 => exact fun _ _ _ h => h
  case hwx12rx2x6x11 => rfl
  case hyx12rx2x6x11 =>
    intro W hW
    go_simp
    try with_reducible rfl
  simp only [Act.put, List.setIfInBounds_toArray, List.set_cons_succ, List.set_cons_zero]
  refine wpAnyH_done (by kernel_rfl) ?_ _
  go_wp2_with fail
  refine bodyPost_ret (v := .tuple #[.agg #[.int .i64 m2, .int .i64 m4, .slice (some A) l6 c6], .int .i64 0]) (results_ct rfl _ _ w.heap.size 30 #[.int .i64 m2, .int .i64 m4, .slice (some A) l6 c6] (0, 0) _ (.int .i64 0) rfl rfl GR.out Try.underlying30 ⟨_, rfl⟩ IC.out) rfl ?_
  exact FIN2.out _ hS
theorem decodeD (v : Value) (xs : List Int) (hl : xs.length ≤ 10000) (w : World) (hs : Sees w v xs) : Calls Try.prog 12 #[v] w (DecS w xs) := by
  by_cases h6 : xs.length < 6
  · exact decodeD_a v xs hl w hs h6
  · by_cases h7 : 4102 < xs.length
    · exact decodeD_b v xs hl w hs (by omega) h7
    · by_cases h8 : 127 < nth xs 2
      · exact decodeD_c v xs hl w hs (by omega) (by omega) h8
      · exact decodeD_d v xs hl w hs (by omega) (by omega) (by omega)
end Go.Proofs.Ytabopcfhonkecaa
