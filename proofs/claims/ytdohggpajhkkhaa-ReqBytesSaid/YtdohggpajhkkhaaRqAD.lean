/-
  The document's Decode where the bytes are refused ahead of their fields: too few, or of no kind. Condition: the value reads as these bytes.
-/
import Derived.Test.YtdohggpajhkkhaaRqAB
namespace Go.Proofs.Ytdohggpajhkkhaa
open Go.RowKit
theorem shrt_no (ys : List Int) (n : Nat) (h : n ≤ ys.length) : shrt ys.length false (n : Nat) = false := by
  unfold shrt
  rw [decide_eq_false (by omega), decide_eq_false (by omega)]
  rfl
theorem st_n (p : Rq) (ys : List Int) (a : Nat) (ha : a < 8) (h : wN a ≤ ys.length) : stR (lN a) (p, ys, false) = (setN p (lN a) (numI (ys.take (wN a))), ys.drop (wN a), false) := by
  obtain ⟨h1, h2, h3⟩ := lN_ok ha
  unfold stR
  rw [if_pos h1]
  show (setN p (lN a) (numI (got ys false (widN (lN a) : Nat))), rst ys false (widN (lN a) : Nat), shrt ys.length false (widN (lN a) : Nat)) = _
  rw [h2]
  unfold got rst
  rw [shrt_no ys _ h]
  rfl
theorem st_k {p : Rq} (hp : RQ p) (ys : List Int) (a : Nat) (ha : a < 4) (h : 32 ≤ ys.length) : stR (lK a) (p, ys, false) = (setK p (lK a) (ys.take 32), ys.drop 32, false) := by
  obtain ⟨h1, h2⟩ := lK_ok ha
  have h3 := keyN h1
  have hl : (keyL p (lK a)).length = 32 := (fieldW_len hp (l := lK a)).2 h1 ▸ (by unfold fieldW; rw [if_neg h3, if_pos h1])
  have hs := shrt_no ys 32 h
  unfold stR
  rw [if_neg h3, if_pos h1]
  show (setK p (lK a) (got ys false (32 : Nat) ++ (keyL p (lK a)).drop (got ys false (32 : Nat)).length), rst ys false (32 : Nat), shrt ys.length false (32 : Nat)) = _
  unfold got rst
  rw [hs]
  show (setK p (lK a) (ys.take 32 ++ (keyL p (lK a)).drop (ys.take 32).length), ys.drop 32, false) = _
  rw [List.length_take, Nat.min_eq_left h, List.drop_of_length_le (by omega), List.append_nil]
def PA (p : Rq) (ys : List Int) (l : List Nat) : Rq := (runR (l.map lN) (p, ys, false)).1
def PK (p : Rq) (ys : List Int) (l : List Nat) : Rq := (runR (l.map lK) (p, ys, false)).1
theorem runR_cons (a : Nat) (l : List Nat) (T : RT) : runR (a :: l) T = runR l (stR a T) := rfl
theorem runR_app (a b : List Nat) (T : RT) : runR (a ++ b) T = runR b (runR a T) := by simp [runR]
theorem run_n : ∀ (l : List Nat), (∀ a ∈ l, a < 8) → ∀ (p : Rq) (ys : List Int), sW l ≤ ys.length → runR (l.map lN) (p, ys, false) = (PA p ys l, ys.drop (sW l), false)
  | [], _, p, ys, _ => by simp [PA, runR, sW]
  | a :: l, h, p, ys, hs => by
    have e : sW (a :: l) = wN a + sW l := by simp [sW]
    rw [e] at hs
    have h1 := st_n p ys a (h a (by simp)) (by omega)
    have h2 := run_n l (fun b hb => h b (by simp [hb])) (setN p (lN a) (numI (ys.take (wN a)))) (ys.drop (wN a)) (by rw [List.length_drop]; omega)
    unfold PA at h2 ⊢
    rw [List.map_cons, runR_cons, h1, h2, e, List.drop_drop]
theorem run_kk : ∀ (l : List Nat), (∀ a ∈ l, a < 4) → ∀ (p : Rq) (ys : List Int), RTok (p, ys, false) → 32 * l.length ≤ ys.length → runR (l.map lK) (p, ys, false) = (PK p ys l, ys.drop (32 * l.length), false)
  | [], _, p, ys, _, _ => by simp [PK, runR]
  | a :: l, h, p, ys, ho, hs => by
    rw [List.length_cons] at hs
    have h1 := st_k ho.1 ys a (h a (by simp)) (by omega)
    have ho' : RTok (stR (lK a) (p, ys, false)) := stR_ok ho
    rw [h1] at ho'
    have h2 := run_kk l (fun b hb => h b (by simp [hb])) _ (ys.drop 32) ho' (by rw [List.length_drop]; omega)
    unfold PK at h2 ⊢
    rw [List.map_cons, runR_cons, h1, h2, List.drop_drop, List.length_cons, show 32 + 32 * l.length = 32 * (l.length + 1) by omega]
theorem take_map (f : Nat → Nat) (l : List Nat) (j a : Nat) (h : l[j]? = some a) (T : RT) : runR ((l.take (j + 1)).map f) T = stR (f a) (runR ((l.take j).map f) T) := by
  rw [List.take_add_one, h]
  simp [runR]
theorem sW_take (l : List Nat) (j : Nat) : sW (l.take j) ≤ sW l := by
  have h : sW (l.take j) + sW (l.drop j) = sW l := by
    unfold sW
    rw [← List.sum_append, ← List.map_append, List.take_append_drop]
  omega
theorem PA_succ {p : Rq} {ys : List Int} {l : List Nat} (hl : ∀ a ∈ l, a < 8) (hs : sW l ≤ ys.length) (j a : Nat) (h : l[j]? = some a) :
    PA p ys (l.take (j + 1)) = setN (PA p ys (l.take j)) (lN a) (numI ((ys.drop (sW (l.take j))).take (wN a))) := by
  have h1 := run_n (l.take j) (fun b hb => hl b (List.mem_of_mem_take hb)) p ys (Nat.le_trans (sW_take l j) hs)
  have e := sW_succ l j a h
  have e2 := sW_take l (j + 1)
  have h2 := st_n (PA p ys (l.take j)) (ys.drop (sW (l.take j))) a (hl a (List.mem_of_getElem? h)) (by rw [List.length_drop]; omega)
  show (runR ((l.take (j + 1)).map lN) (p, ys, false)).1 = _
  rw [take_map lN l j a h, h1, h2]
theorem PK_succ {p : Rq} {ys : List Int} {l : List Nat} (hl : ∀ a ∈ l, a < 4) (ho : RTok (p, ys, false)) (hs : 32 * l.length ≤ ys.length) (j a : Nat) (h : l[j]? = some a) :
    PK p ys (l.take (j + 1)) = setK (PK p ys (l.take j)) (lK a) ((ys.drop (32 * j)).take 32) := by
  have hj : j < l.length := (List.getElem?_eq_some_iff.1 h).1
  have el : (l.take j).length = j := by rw [List.length_take]; omega
  have h1 := run_kk (l.take j) (fun b hb => hl b (List.mem_of_mem_take hb)) p ys ho (by rw [el]; omega)
  have ho1 : RTok (runR ((l.take j).map lK) (p, ys, false)) := runR_ok _ ho
  rw [h1, el] at ho1
  have h2 := st_k ho1.1 (ys.drop (32 * j)) a (hl a (List.mem_of_getElem? h)) (by rw [List.length_drop]; omega)
  show (runR ((l.take (j + 1)).map lK) (p, ys, false)).1 = _
  rw [take_map lK l j a h, h1, el, h2]
theorem PA_ok {p : Rq} {ys : List Int} (ho : RTok (p, ys, false)) (l : List Nat) : RQ (PA p ys l) := (runR_ok (l.map lN) ho).1
theorem PK_ok {p : Rq} {ys : List Int} (ho : RTok (p, ys, false)) (l : List Nat) : RQ (PK p ys l) := (runR_ok (l.map lK) ho).1
theorem setN_d (p : Rq) (l : Nat) (z : Int) : (setN p l z).d = p.d := by unfold setN; (repeat' split) <;> rfl
theorem setK_d (p : Rq) (l : Nat) (z : List Int) : (setK p l z).d = p.d := by unfold setK; (repeat' split) <;> rfl
theorem run_nd : ∀ (ls : List Nat), (∀ x ∈ ls, isN x = true ∨ isK x = true) → ∀ T : RT, (runR ls T).1.d = T.1.d
  | [], _, _ => rfl
  | a :: l, h, T => by
    rw [runR_cons, run_nd l (fun x hx => h x (by simp [hx]))]
    unfold stR
    by_cases h1 : isN a = true
    · rw [if_pos h1]; exact setN_d _ _ _
    · rw [if_neg h1, if_pos ((h a (by simp)).resolve_left h1)]; exact setK_d _ _ _
theorem lets_n {k : Int} (h : kindB k = true) : lets (letS k) = ((nA k).map lN ++ ((nK k).map lK ++ (nB k).map lN)) ++ (if k = 4 then [100] else []) := by
  rcases kind_cases h with rfl | rfl | rfl | rfl | rfl | rfl | rfl | rfl | rfl | rfl | rfl | rfl | rfl | rfl | rfl | rfl <;> decide
/-- What the document's Decode reads, before it looks whether the bytes are those of the request. -/
def QF (k : Int) (ys : List Int) : Rq :=
  { PA (PK (PA (pz k) ys (nA k)) (ys.drop (sW (nA k))) (nK k)) (ys.drop (sW (nA k) + 32 * (nK k).length)) (nB k) with d := ys.drop (flen k) }
theorem run3 {k : Int} {ys : List Int} (hi : i64 k) (hb : Byt ys) (hl : ys.length ≤ 10000) (hf : flen k ≤ ys.length) :
    runR ((nA k).map lN ++ ((nK k).map lK ++ (nB k).map lN)) (pz k, ys, false) = (PA (PK (PA (pz k) ys (nA k)) (ys.drop (sW (nA k))) (nK k)) (ys.drop (sW (nA k) + 32 * (nK k).length)) (nB k), ys.drop (flen k), false) := by
  have ho : RTok (pz k, ys, false) := ⟨pz_ok hi, hb, hl⟩
  have hs := flen_s k
  obtain ⟨s1, s2, s3⟩ := nums_small (k := k)
  have e1 := run_n (nA k) s1 (pz k) ys (by omega)
  have o1 : RTok (runR ((nA k).map lN) (pz k, ys, false)) := runR_ok _ ho
  rw [e1] at o1
  have e2 := run_kk (nK k) s2 _ _ o1 (by rw [List.length_drop]; omega)
  rw [List.drop_drop] at e2
  have e3 := run_n (nB k) s3 (PK (PA (pz k) ys (nA k)) (ys.drop (sW (nA k))) (nK k)) (ys.drop (sW (nA k) + 32 * (nK k).length)) (by rw [List.length_drop]; omega)
  rw [runR_app, e1, runR_app, e2, e3, List.drop_drop, hs]
theorem QF_ok {k : Int} {ys : List Int} (hi : i64 k) (hb : Byt ys) (hl : ys.length ≤ 10000) (hf : flen k ≤ ys.length) : RQ (QF k ys) ∧ Byt (QF k ys).d ∧ (QF k ys).d = ys.drop (flen k) := by
  have h := runR_ok ((nA k).map lN ++ ((nK k).map lK ++ (nB k).map lN)) (a := (pz k, ys, false)) ⟨pz_ok hi, hb, hl⟩
  rw [run3 hi hb hl hf] at h
  refine ⟨?_, fun x hx => hb x (List.mem_of_mem_drop hx), rfl⟩
  obtain ⟨a1, a2, a3, a4, a5, a6, a7, a8, a9, a10, a11, a12, a13, a14⟩ := h.1
  exact ⟨a1, a2, a3, a4, a5, a6, a7, a8, a9, a10, a11, a12, a13, by show (ys.drop (flen k)).length ≤ 10000; rw [List.length_drop]; omega⟩
/-- What may be decoded at all begins so. -/
theorem dok_need {xs : List Int} (hb : Byt xs) (hl : xs.length ≤ 10000) (h : dOk xs = true) : ∃ k r, xs = 82 :: k :: r ∧ kindB k = true ∧ flen k ≤ r.length ∧ dK xs = k ∧ dY xs = (r, false) := by
  obtain ⟨h1, h2, _, h4⟩ := dec_back hb hl h
  have hk := right_kind h4
  have e := wrL_fix h1 hk
  refine ⟨(dA xs).1.k, wrL (dA xs).1, h2, hk, by omega, ?_, ?_⟩
  · have := (d_bytes (dA xs).1.k (wrL (dA xs).1)).2.1
    rw [show 82 :: (dA xs).1.k :: wrL (dA xs).1 = xs from h2.symm] at this
    exact this
  · have := (d_bytes (dA xs).1.k (wrL (dA xs).1)).2.2
    rw [show 82 :: (dA xs).1.k :: wrL (dA xs).1 = xs from h2.symm] at this
    exact this
theorem dok_q {xs : List Int} (hb : Byt xs) (hl : xs.length ≤ 10000) (h : dOk xs = true) (f k : Int) (ys : List Int) (hx : xs = f :: k :: ys) : QF k ys = (dA xs).1 ∧ rightQ (QF k ys) = true ∧ xs = bytR (QF k ys) := by
  obtain ⟨k', r, e, hk, hf, e1, e2⟩ := dok_need hb hl h
  rw [e] at hx
  injection hx with _ hx
  injection hx with hk1 hr1
  subst hk1
  subst hr1
  have hbr : Byt r := fun x hx => hb x (by rw [e]; simp [hx])
  have hlr : r.length ≤ 10000 := by rw [e] at hl; simp at hl; omega
  have hi : i64 k' := by have := dK_bd hb; rw [e1] at this; unfold i64; omega
  have h3 := (dec_parts h).2.2.1
  have key : QF k' r = (dA xs).1 := by
    have hd : dA xs = runR (lets (letS k')) (pz k', r, false) := by unfold dA; rw [e1, e2]
    have hq := run3 hi hbr hlr hf
    have hnd : (runR ((nA k').map lN ++ ((nK k').map lK ++ (nB k').map lN)) (pz k', r, false)).1.d = [] := by
      rw [run_nd]
      · rfl
      · intro x hx
        obtain ⟨s1, s2, s3⟩ := nums_small (k := k')
        simp only [List.mem_append, List.mem_map] at hx
        rcases hx with ⟨a, ha, rfl⟩ | ⟨a, ha, rfl⟩ | ⟨a, ha, rfl⟩
        · exact .inl (lN_ok (s1 a ha)).1
        · exact .inr (lK_ok (s2 a ha)).1
        · exact .inl (lN_ok (s3 a ha)).1
    rw [lets_n hk, runR_app] at hd
    rw [hq] at hd hnd
    rw [hd] at h3 ⊢
    unfold QF
    generalize PA (PK (PA (pz k') r (nA k')) (r.drop (sW (nA k'))) (nK k')) (r.drop (sW (nA k') + 32 * (nK k').length)) (nB k') = P at hnd h3 ⊢
    generalize r.drop (flen k') = rest at h3 ⊢
    by_cases h4 : k' = 4
    · rw [if_pos h4]
      have hg : got rest false rest.length = rest := by
        unfold got
        rw [shrt_no rest _ (Nat.le_refl _)]
        show rest.take rest.length = rest
        exact List.take_of_length_le (Nat.le_refl _)
      show ({ P with d := rest } : Rq) = ({ P with d := got rest false rest.length } : Rq)
      rw [hg]
    · rw [if_neg h4] at h3 ⊢
      have : rest = [] := congrArg Prod.fst h3
      rw [this]
      show ({ P with d := [] } : Rq) = P
      simp only at hnd
      cases P
      simp only at hnd
      rw [hnd]
  obtain ⟨_, b2, _, b4⟩ := dec_back hb hl h
  exact ⟨key, by rw [key]; exact b4, by rw [key]; exact b2⟩
theorem q_dok {k : Int} {xs ys : List Int} (hi : i64 k) (hb : Byt ys) (hl : ys.length ≤ 5000) (hf : flen k ≤ ys.length) (h : rightQ (QF k ys) = true) (hx : bytR (QF k ys) = xs) : dOk xs = true := by
  obtain ⟨h1, h2, h3⟩ := QF_ok hi hb (by omega) hf
  rw [← hx]
  exact (right_dec h1 h2 (by rw [h3, List.length_drop]; omega) h).1
theorem b35z (w : World) : (Instr.build 35 #[]).run Try.prog w = .ok (.agg (rc (pz 0) (.slice none 0 0)).toArray) w := by kernel_rfl
/-- What the document's Decode gives: the request, whose data lie where the bytes lie. -/
def DecS (w : World) (xs : List Int) (e : Ending) (w' : World) : Prop :=
  ∃ dv, e = .returned (.tuple #[.agg (rc (decP xs) dv).toArray, .int .i64 (decE xs)]) ∧ RQ (decP xs) ∧ Sees w' dv (decP xs).d ∧ Below w.heap.size w w'
theorem sno {xs : List Int} {w w' : World} (h : dOk xs = false) (hb : Below w.heap.size w w') : DecS w xs (.returned (.tuple #[.agg (rc (pz 0) (.slice none 0 0)).toArray, .int .i64 70])) w' := by
  obtain ⟨dv, h1, h2, h3, _, h4⟩ := zno h hb
  exact ⟨dv, h1, h2, h3, h4⟩
theorem dno_a {xs : List Int} (hb : Byt xs) (hl : xs.length ≤ 5000) (h : xs.length < 2) : dOk xs = false := by
  rw [Bool.eq_false_iff]
  intro e
  obtain ⟨k, r, rfl, _⟩ := dok_need hb (by omega) e
  simp only [List.length_cons] at h
  omega
theorem dno_k {f k : Int} {ys : List Int} (hb : Byt (f :: k :: ys)) (hl : (f :: k :: ys).length ≤ 5000) (h : kindB k = false ∨ ys.length < flen k) : dOk (f :: k :: ys) = false := by
  rw [Bool.eq_false_iff]
  intro e
  obtain ⟨k', r, e1, e2, e3, _⟩ := dok_need hb (by omega) e
  injection e1 with _ e1
  injection e1 with h1 h2
  subst h1
  subst h2
  rcases h with h | h
  · rw [h] at e2; cases e2
  · omega
theorem sees_pos {w : World} {v : Value} {xs : List Int} (h : Sees w v xs) (hn : xs ≠ []) : ∃ b o cap, v = .slice (some ⟨b, o, none⟩) xs.length cap ∧ b < w.heap.size := by
  rcases h with ⟨_, ⟨_, rfl⟩ | ⟨_, _, _, rfl, _⟩ | ⟨b, o, cap, rfl, h3, _, _, h6⟩⟩
  · exact absurd rfl hn
  · exact absurd rfl hn
  · exact ⟨b, o, cap, rfl, World.block_lt_of_cell? w _ (h6 0 (List.length_pos_iff.2 hn))⟩
set_option maxRecDepth 100000 in
set_option maxHeartbeats 1000000 in
theorem decD_a (v : Value) (xs : List Int) (w : World) (hs : Sees w v xs) (h2 : xs.length < 2) : Calls Try.prog 13 #[v] w (DecS w xs) := by
  have hok := dno_a hs.1 (by omega) h2
  obtain ⟨x, cap, rfl, _⟩ := hs.form
  have hn2 : ((xs.length : Nat) : Int) < 2 := by omega
  obtain ⟨Z, hZ⟩ : ∃ Z, Z = (rc (pz 0) (.slice none 0 0)).toArray := ⟨_, rfl⟩
  have hb0 := b35z
  rw [← hZ] at hb0
  have BZ := Lib.hid hb0
  have i0 := i35 (pz_ok (k := 0) (by unfold i64; omega)) (.slice none 0 0)
  rw [← hZ] at i0
  have IZ := Lib.hid i0
  have OZ : Hid (Z.all (·.oneCell') = true) := by show _ = _; rw [hZ]; exact rc_one rfl
  obtain ⟨w1, hw1⟩ : ∃ w1, w1 = w.alloc (.cells Z 35) := ⟨_, rfl⟩
  have B1 : Hid (Below w.heap.size w w1) := by show Below _ _ _; rw [hw1]; exact (Below.refl _ _).alloc (Nat.le_refl _) _
  have g1 : w1.heap[w.heap.size]? = some (.cells Z 35 (0, 0)) := by rw [hw1]; exact heap_alloc_new w _
  have G1 := Lib.hid g1
  have HW1 := Lib.hid hw1
  have z := z35
  rw [← hZ] at z
  have OK : Hid (∀ W, Below w.heap.size w W → DecS w xs (.returned (.tuple #[.agg Z, .int .i64 70])) W) := fun W hb => by rw [hZ]; exact sno hok hb
  clear hs h2
  generalize DecS w xs = PP at OK ⊢
  clear hw1 g1 hZ hb0 i0 hok
  go_enter Try.func13, Try.ntmps13
  go_upto_region 1 with (fail)
  rw [← HW1.out]
  clear z
  go_wp2_with (first | (refine wpList_build0_run rfl 35 rfl (BZ.out _) ?_) | (refine wpList_store_row rfl 35 (.tmp 2) (.tmp 41) rfl w.heap.size Z rfl rfl 35 Z G1.out IZ.out rfl OZ.out ?_))
  have YZ : Hid (_ = some (Obj.cells Z 35 (0, 0))) := setRow_heap _ w.heap.size Z Z _ _ G1.out
  exact bodyPost_ret (v := .tuple #[.agg Z, .int .i64 70]) (results_ct rfl _ _ w.heap.size 35 Z (0, 0) _ (.int .i64 70) rfl rfl YZ.out Try.underlying35 ⟨_, rfl⟩ IZ.out) rfl (OK.out _ (B1.out.trans (below_row _ _ (Nat.le_refl _))))
set_option maxRecDepth 100000 in
set_option maxHeartbeats 1000000 in
theorem decD_b (v : Value) (xs : List Int) (w : World) (hs : Sees w v xs) (hl : xs.length ≤ 5000) (f k : Int) (ys : List Int) (hx : xs = f :: k :: ys) (hk : k < 1) : Calls Try.prog 13 #[v] w (DecS w xs) := by
  obtain ⟨b, o, cap, rfl, hlt⟩ := sees_pos hs (by rw [hx]; simp)
  have hok : dOk xs = false := by
    have hs1 := hs.1
    rw [hx] at hs1 hl ⊢
    exact dno_k hs1 hl (.inl (by unfold kindB; simp; omega))
  have hk0 : 0 ≤ k ∧ k ≤ 255 := by have := hs.1 k (by rw [hx]; simp); omega
  have hln : 2 ≤ xs.length := by rw [hx]; simp
  have hn2 : ¬ ((xs.length : Nat) : Int) < 2 := by omega
  have nx : nth xs 1 = k := by rw [hx]; rfl
  have hc0 := hs.cell 1 (by omega)
  rw [nx] at hc0
  obtain ⟨Z, hZ⟩ : ∃ Z, Z = (rc (pz 0) (.slice none 0 0)).toArray := ⟨_, rfl⟩
  have hb0 := b35z
  rw [← hZ] at hb0
  have BZ := Lib.hid hb0
  have i0 := i35 (pz_ok (k := 0) (by unfold i64; omega)) (.slice none 0 0)
  rw [← hZ] at i0
  have IZ := Lib.hid i0
  have OZ : Hid (Z.all (·.oneCell') = true) := by show _ = _; rw [hZ]; exact rc_one rfl
  obtain ⟨w1, hw1⟩ : ∃ w1, w1 = w.alloc (.cells Z 35) := ⟨_, rfl⟩
  have B1 : Hid (Below w.heap.size w w1) := by show Below _ _ _; rw [hw1]; exact (Below.refl _ _).alloc (Nat.le_refl _) _
  have g1 : w1.heap[w.heap.size]? = some (.cells Z 35 (0, 0)) := by rw [hw1]; exact heap_alloc_new w _
  have G1 := Lib.hid g1
  have HW1 := Lib.hid hw1
  have z := z35
  rw [← hZ] at z
  have OK : Hid (∀ W, Below w.heap.size w W → DecS w xs (.returned (.tuple #[.agg Z, .int .i64 70])) W) := fun W hb => by rw [hZ]; exact sno hok hb
  have cc : w1.cell? ⟨b, o + 1, none⟩ = some (.int .u8 k) := (B1.out.cell hlt).trans hc0
  clear hs hx nx hc0 hlt hl
  have hk1 : k < 1 := hk
  have hk2 : 0 ≤ k := hk0.1
  clear hk hk0
  generalize DecS w xs = PP at OK ⊢
  clear hw1 g1 hZ hb0 i0 hok
  go_enter Try.func13, Try.ntmps13
  go_upto_region 1 with (fail)
  rw [← HW1.out]
  clear z
  go_wp2_with (first | (refine wpList_build0_run rfl 35 rfl (BZ.out _) ?_) | (refine wpList_store_row rfl 35 (.tmp 2) (.tmp 41) rfl w.heap.size Z rfl rfl 35 Z G1.out IZ.out rfl OZ.out ?_))
  have YZ : Hid (_ = some (Obj.cells Z 35 (0, 0))) := setRow_heap _ w.heap.size Z Z _ _ G1.out
  exact bodyPost_ret (v := .tuple #[.agg Z, .int .i64 70]) (results_ct rfl _ _ w.heap.size 35 Z (0, 0) _ (.int .i64 70) rfl rfl YZ.out Try.underlying35 ⟨_, rfl⟩ IZ.out) rfl (OK.out _ (B1.out.trans (below_row _ _ (Nat.le_refl _))))
set_option maxRecDepth 100000 in
set_option maxHeartbeats 1000000 in
theorem decD_c (v : Value) (xs : List Int) (w : World) (hs : Sees w v xs) (hl : xs.length ≤ 5000) (f k : Int) (ys : List Int) (hx : xs = f :: k :: ys) (hk : 16 < k) : Calls Try.prog 13 #[v] w (DecS w xs) := by
  obtain ⟨b, o, cap, rfl, hlt⟩ := sees_pos hs (by rw [hx]; simp)
  have hok : dOk xs = false := by
    have hs1 := hs.1
    rw [hx] at hs1 hl ⊢
    exact dno_k hs1 hl (.inl (by unfold kindB; simp; omega))
  have hk0 : 0 ≤ k ∧ k ≤ 255 := by have := hs.1 k (by rw [hx]; simp); omega
  have hln : 2 ≤ xs.length := by rw [hx]; simp
  have hn2 : ¬ ((xs.length : Nat) : Int) < 2 := by omega
  have nx : nth xs 1 = k := by rw [hx]; rfl
  have hc0 := hs.cell 1 (by omega)
  rw [nx] at hc0
  obtain ⟨Z, hZ⟩ : ∃ Z, Z = (rc (pz 0) (.slice none 0 0)).toArray := ⟨_, rfl⟩
  have hb0 := b35z
  rw [← hZ] at hb0
  have BZ := Lib.hid hb0
  have i0 := i35 (pz_ok (k := 0) (by unfold i64; omega)) (.slice none 0 0)
  rw [← hZ] at i0
  have IZ := Lib.hid i0
  have OZ : Hid (Z.all (·.oneCell') = true) := by show _ = _; rw [hZ]; exact rc_one rfl
  obtain ⟨w1, hw1⟩ : ∃ w1, w1 = w.alloc (.cells Z 35) := ⟨_, rfl⟩
  have B1 : Hid (Below w.heap.size w w1) := by show Below _ _ _; rw [hw1]; exact (Below.refl _ _).alloc (Nat.le_refl _) _
  have g1 : w1.heap[w.heap.size]? = some (.cells Z 35 (0, 0)) := by rw [hw1]; exact heap_alloc_new w _
  have G1 := Lib.hid g1
  have HW1 := Lib.hid hw1
  have z := z35
  rw [← hZ] at z
  have OK : Hid (∀ W, Below w.heap.size w W → DecS w xs (.returned (.tuple #[.agg Z, .int .i64 70])) W) := fun W hb => by rw [hZ]; exact sno hok hb
  have cc : w1.cell? ⟨b, o + 1, none⟩ = some (.int .u8 k) := (B1.out.cell hlt).trans hc0
  clear hs hx nx hc0 hlt hl
  have hk1 : ¬ k < 1 := by omega
  have hk2 : 16 < k := hk
  have hk3 : k ≤ 255 := hk0.2
  clear hk hk0
  generalize DecS w xs = PP at OK ⊢
  clear hw1 g1 hZ hb0 i0 hok
  go_enter Try.func13, Try.ntmps13
  go_upto_region 1 with (fail)
  rw [← HW1.out]
  clear z
  go_wp2_with (first | (refine wpList_build0_run rfl 35 rfl (BZ.out _) ?_) | (refine wpList_store_row rfl 35 (.tmp 2) (.tmp 41) rfl w.heap.size Z rfl rfl 35 Z G1.out IZ.out rfl OZ.out ?_))
  have YZ : Hid (_ = some (Obj.cells Z 35 (0, 0))) := setRow_heap _ w.heap.size Z Z _ _ G1.out
  exact bodyPost_ret (v := .tuple #[.agg Z, .int .i64 70]) (results_ct rfl _ _ w.heap.size 35 Z (0, 0) _ (.int .i64 70) rfl rfl YZ.out Try.underlying35 ⟨_, rfl⟩ IZ.out) rfl (OK.out _ (B1.out.trans (below_row _ _ (Nat.le_refl _))))
set_option maxRecDepth 100000 in
set_option maxHeartbeats 1000000 in
theorem decD_d (v : Value) (xs : List Int) (w : World) (hs : Sees w v xs) (hl : xs.length ≤ 5000) (f k : Int) (ys : List Int) (hx : xs = f :: k :: ys) (hk1 : ¬ k < 1) (hk2 : ¬ 16 < k) (hf : ys.length < flen k) : Calls Try.prog 13 #[v] w (DecS w xs) := by
  obtain ⟨b, o, cap, rfl, hlt⟩ := sees_pos hs (by rw [hx]; simp)
  have hok : dOk xs = false := by
    have hs1 := hs.1
    rw [hx] at hs1 hl ⊢
    exact dno_k hs1 hl (.inr hf)
  have hk0 : 0 ≤ k ∧ k ≤ 255 := by have := hs.1 k (by rw [hx]; simp); omega
  have hln : 2 ≤ xs.length := by rw [hx]; simp
  have hn2 : ¬ ((xs.length : Nat) : Int) < 2 := by omega
  have nx : nth xs 1 = k := by rw [hx]; rfl
  have hc0 := hs.cell 1 (by omega)
  rw [nx] at hc0
  obtain ⟨Z, hZ⟩ : ∃ Z, Z = (rc (pz 0) (.slice none 0 0)).toArray := ⟨_, rfl⟩
  have hb0 := b35z
  rw [← hZ] at hb0
  have BZ := Lib.hid hb0
  have i0 := i35 (pz_ok (k := 0) (by unfold i64; omega)) (.slice none 0 0)
  rw [← hZ] at i0
  have IZ := Lib.hid i0
  have OZ : Hid (Z.all (·.oneCell') = true) := by show _ = _; rw [hZ]; exact rc_one rfl
  obtain ⟨w1, hw1⟩ : ∃ w1, w1 = w.alloc (.cells Z 35) := ⟨_, rfl⟩
  have B1 : Hid (Below w.heap.size w w1) := by show Below _ _ _; rw [hw1]; exact (Below.refl _ _).alloc (Nat.le_refl _) _
  have g1 : w1.heap[w.heap.size]? = some (.cells Z 35 (0, 0)) := by rw [hw1]; exact heap_alloc_new w _
  have G1 := Lib.hid g1
  have HW1 := Lib.hid hw1
  have z := z35
  rw [← hZ] at z
  have OK : Hid (∀ W, Below w.heap.size w W → DecS w xs (.returned (.tuple #[.agg Z, .int .i64 70])) W) := fun W hb => by rw [hZ]; exact sno hok hb
  have cc : w1.cell? ⟨b, o + 1, none⟩ = some (.int .u8 k) := (B1.out.cell hlt).trans hc0
  clear hs  nx hc0 hlt hl
  have hk3 : k ≤ 255 := hk0.2
  have SZ := Lib.hid (sizeC k)
  have hfc : ((xs.length : Nat) : Int) < 2 + ((flen k : Nat) : Int) := by rw [hx]; simp; omega
  have hf5 : ((flen k : Nat) : Int) ≤ 1000 := by have := flen_s k; have := sW_le (nA k); have := sW_le (nB k); obtain ⟨h1, h2, h3⟩ := nums_le k; omega
  clear hx hk0 hf
  generalize DecS w xs = PP at OK ⊢
  clear hw1 g1 hZ hb0 i0 hok
  go_enter Try.func13, Try.ntmps13
  go_upto_region 1 with (fail)
  rw [← HW1.out]
  clear z
  go_wp2_with fail
  refine (SZ.out _).mono ?_
  rintro e w2 ⟨rfl, hb⟩
  have B2 := Lib.hid (B1.out.trans (hb.mono B1.out.size))
  have G2 := Lib.hid ((hb.block _ (blk_lt G1.out)).trans G1.out)
  clear hb
  go_wp2_with (first | (refine wpList_build0_run rfl 35 rfl (BZ.out _) ?_) | (refine wpList_store_row rfl 35 (.tmp 2) (.tmp 41) rfl w.heap.size Z rfl rfl 35 Z G2.out IZ.out rfl OZ.out ?_))
  have YZ : Hid (_ = some (Obj.cells Z 35 (0, 0))) := setRow_heap _ w.heap.size Z Z _ _ G2.out
  exact bodyPost_ret (v := .tuple #[.agg Z, .int .i64 70]) (results_ct rfl _ _ w.heap.size 35 Z (0, 0) _ (.int .i64 70) rfl rfl YZ.out Try.underlying35 ⟨_, rfl⟩ IZ.out) rfl (OK.out _ (B2.out.trans (below_row _ _ (Nat.le_refl _))))
end Go.Proofs.Ytdohggpajhkkhaa
