/-
  The document's Right is the program's, as lists. Condition: the request has data of at most 5000 bytes.
-/
import Derived.Test.YtdohggpajhkkhaaRqW
namespace Go.Proofs.Ytdohggpajhkkhaa
open Go.RowKit
/-- A field's value. -/
def valL (p : Rq) (l : Nat) : List Int := if isN l = true then [numL p l] else if isK l = true then keyL p l else p.d
def cutV (p : Rq) (l : Nat) : List Int := if isN l = true then [numI (be (widN l) (numL p l))] else valL p l
theorem valL_stR {l l' : Nat} (hl : isL l = true) (hl' : isL l' = true) (h : l ≠ l') (a : RT) : valL (stR l' a).1 l = valL a.1 l := by
  rcases isL_cases hl with rfl | rfl | rfl | rfl | rfl | rfl | rfl | rfl | rfl | rfl | rfl | rfl | rfl
  all_goals
    rcases isL_cases hl' with rfl | rfl | rfl | rfl | rfl | rfl | rfl | rfl | rfl | rfl | rfl | rfl | rfl <;> first | exact absurd rfl h | rfl
theorem valL_run {l : Nat} (hl : isL l = true) : ∀ (ls : List Nat), (∀ x ∈ ls, isL x = true) → l ∉ ls → ∀ a : RT, valL (runR ls a).1 l = valL a.1 l
  | [], _, _, _ => rfl
  | x :: r, h, hn, a => by
    show valL (runR r (stR x a)).1 l = _
    rw [valL_run hl r (fun y hy => h y (by simp [hy])) (fun hy => hn (by simp [hy])), valL_stR hl (h x (by simp)) (fun e => hn (by simp [e]))]
theorem not100 {l : Nat} (hl : isL l = true) (hn : ¬ isN l = true) (hk : ¬ isK l = true) : l = 100 := by
  unfold isL at hl
  simp only [Bool.or_eq_true, beq_iff_eq] at hl
  rcases hl with (h1 | h1) | h1
  · exact absurd h1 hn
  · exact absurd h1 hk
  · exact h1
theorem val_step {p : Rq} (hp : RQ p) {l : Nat} (hl : isL l = true) (r : List Int) (hr : l = 100 → r = []) (b : Rq) (hb : RQ b) : (stR l (b, fieldW p l ++ r, false)).2 = (r, false) ∧ valL (stR l (b, fieldW p l ++ r, false)).1 l = cutV p l := by
  have hlen := fieldW_len hp (l := l)
  by_cases hn : isN l = true
  · have e1 : ∀ xs, stR l (b, xs, false) = (setN b l (numI (got xs false (widN l))), rst xs false (widN l), shrt xs.length false (widN l)) := fun xs => if_pos hn
    have g := got_parts (fieldW p l) r (widN l) (by rw [hlen.1 hn])
    rw [e1]
    refine ⟨by rw [g.2.1, g.2.2], ?_⟩
    rw [g.1]
    have e2 : fieldW p l = be (widN l) (numL p l) := if_pos hn
    show valL (setN b l _) l = _
    unfold valL cutV
    rw [if_pos hn, if_pos hn, numL_setN hn, e2]
  · by_cases hk : isK l = true
    · have e1 : ∀ xs, stR l (b, xs, false) = (setK b l (got xs false 32 ++ (keyL b l).drop (got xs false 32).length), rst xs false 32, shrt xs.length false 32) := fun xs => by unfold stR; rw [if_neg hn, if_pos hk]
      have g := got_parts (fieldW p l) r 32 (by rw [hlen.2 hk]; rfl)
      rw [e1]
      refine ⟨by rw [g.2.1, g.2.2], ?_⟩
      rw [g.1]
      have e2 : fieldW p l = keyL p l := by unfold fieldW; rw [if_neg hn, if_pos hk]
      have l1 := (rc_key hk hb (.slice none 0 0)).1.1
      have l2 := (rc_key hk hp (.slice none 0 0)).1.1
      show valL (setK b l _) l = _
      unfold cutV
      rw [if_neg hn]
      unfold valL
      rw [if_neg hn, if_pos hk, if_neg hn, if_pos hk, keyL_setK hk, e2, l2, List.drop_of_length_le (by omega), List.append_nil]
    · obtain rfl := not100 hl hn hk
      obtain rfl := hr rfl
      have e1 : ∀ xs, stR 100 (b, xs, false) = ({ b with d := got xs false xs.length }, rst xs false xs.length, shrt xs.length false xs.length) := fun xs => rfl
      have g := got_parts (fieldW p 100) [] ((fieldW p 100 ++ []).length : Nat) (by simp)
      rw [e1]
      refine ⟨by rw [g.2.1, g.2.2], ?_⟩
      rw [g.1]
      rfl
theorem run_val {p : Rq} (hp : RQ p) (hd : Byt p.d) : ∀ (ls : List Nat), (∀ x ∈ ls, isL x = true) → ls.Nodup → (∀ x ∈ ls.dropLast, x ≠ 100) → ∀ b, RQ b → (joinL (fieldW p) ls).length ≤ 10000 → ∀ l ∈ ls, valL (runR ls (b, joinL (fieldW p) ls, false)).1 l = cutV p l
  | [], _, _, _, _, _, _, _, h => by simp at h
  | x :: r, hL, hnd, hd1, b, hb, hlen, l, hl => by
    obtain ⟨n1, n2⟩ := List.nodup_cons.1 hnd
    have e : joinL (fieldW p) (x :: r) = fieldW p x ++ joinL (fieldW p) r := by simp [joinL]
    have hr : x = 100 → joinL (fieldW p) r = [] := fun hx => by
      cases r with
      | nil => simp [joinL]
      | cons y z => exact absurd hx (hd1 x (by simp))
    obtain ⟨s1, s2⟩ := val_step hp (hL x (by simp)) (joinL (fieldW p) r) hr b hb
    have ok0 : RTok (b, joinL (fieldW p) (x :: r), false) := ⟨hb, join_byt (fieldW_byt hp hd) _, hlen⟩
    have ok1 := stR_ok (l := x) ok0
    rw [e] at ok1
    have e3 : runR (x :: r) (b, joinL (fieldW p) (x :: r), false) = runR r ((stR x (b, fieldW p x ++ joinL (fieldW p) r, false)).1, joinL (fieldW p) r, false) := by
      rw [← s1, e]
      rfl
    rw [e3]
    by_cases hx : l = x
    · subst hx
      rw [valL_run (hL l (by simp)) r (fun y hy => hL y (by simp [hy])) n1]
      exact s2
    · refine run_val hp hd r (fun y hy => hL y (by simp [hy])) n2 (fun y hy => ?_) _ ok1.1 (by rw [e, List.length_append] at hlen; omega) l (by simp at hl; rcases hl with h | h; exact absurd h hx; exact h)
      cases r with
      | nil => simp at hy
      | cons u z => exact hd1 y (by simp at hy ⊢; exact .inr hy)
theorem rq_ext {a b : Rq} (hk : a.k = b.k) (h : ∀ l, isL l = true → valL a l = valL b l) : a = b := by
  have v := fun l hl => h l hl
  have e1 := v 115 rfl
  have e2 := v 116 rfl
  have e3 := v 118 rfl
  have e4 := v 98 rfl
  have e5 := v 99 rfl
  have e6 := v 110 rfl
  have e7 := v 114 rfl
  have e8 := v 113 rfl
  have e9 : a.o = b.o := v 111 rfl
  have e10 : a.f = b.f := v 102 rfl
  have e11 : a.m = b.m := v 109 rfl
  have e12 : a.x = b.x := v 120 rfl
  have e13 : a.d = b.d := v 100 rfl
  have f1 : a.s = b.s := by simpa [valL, isN, numL] using e1
  have f2 : a.t = b.t := by simpa [valL, isN, numL] using e2
  have f3 : a.v = b.v := by simpa [valL, isN, numL] using e3
  have f4 : a.b = b.b := by simpa [valL, isN, numL] using e4
  have f5 : a.c = b.c := by simpa [valL, isN, numL] using e5
  have f6 : a.n = b.n := by simpa [valL, isN, numL] using e6
  have f7 : a.r = b.r := by simpa [valL, isN, numL] using e7
  have f8 : a.q = b.q := by simpa [valL, isN, numL] using e8
  obtain ⟨k, s, t, v', b', c, n, r, q, o, f, m, x, d⟩ := a
  obtain ⟨k2, s2, t2, v2, b2, c2, n2, r2, q2, o2, f2', m2, x2, d2⟩ := b
  simp only at hk f1 f2 f3 f4 f5 f6 f7 f8 e9 e10 e11 e12 e13
  subst hk f1 f2 f3 f4 f5 f6 f7 f8 e9 e10 e11 e12 e13
  rfl
def lN (i : Nat) : Nat := if i = 0 then 115 else if i = 1 then 116 else if i = 2 then 118 else if i = 3 then 98 else if i = 4 then 99 else if i = 5 then 110 else if i = 6 then 114 else 113
def lK (i : Nat) : Nat := if i = 0 then 111 else if i = 1 then 102 else if i = 2 then 109 else 120
theorem am_let {k : Int} (h : kindB k = true) : (∀ i, i < 8 → (amB (nA k) i || amB (nB k) i) = decide (lN i ∈ lets (letS k))) ∧ (∀ i, i < 4 → amB (nK k) i = decide (lK i ∈ lets (letS k))) ∧ (k = 4 ↔ 100 ∈ lets (letS k)) := by
  rcases kind_cases h with rfl | rfl | rfl | rfl | rfl | rfl | rfl | rfl | rfl | rfl | rfl | rfl | rfl | rfl | rfl | rfl
  all_goals exact ⟨by decide, by decide, by decide⟩
theorem isN_lN {l : Nat} (h : isN l = true) : ∃ i, i < 8 ∧ lN i = l := by
  rcases isN_cases h with rfl | rfl | rfl | rfl | rfl | rfl | rfl | rfl
  · exact ⟨0, by decide, rfl⟩
  · exact ⟨1, by decide, rfl⟩
  · exact ⟨2, by decide, rfl⟩
  · exact ⟨3, by decide, rfl⟩
  · exact ⟨4, by decide, rfl⟩
  · exact ⟨5, by decide, rfl⟩
  · exact ⟨6, by decide, rfl⟩
  · exact ⟨7, by decide, rfl⟩
theorem isK_lK {l : Nat} (h : isK l = true) : ∃ i, i < 4 ∧ lK i = l := by
  rcases isK_cases h with rfl | rfl | rfl | rfl
  · exact ⟨0, by decide, rfl⟩
  · exact ⟨1, by decide, rfl⟩
  · exact ⟨2, by decide, rfl⟩
  · exact ⟨3, by decide, rfl⟩
theorem lN_ok {i : Nat} (h : i < 8) : isN (lN i) = true ∧ widN (lN i) = wN i ∧ isL (lN i) = true := by
  have h8 : i = 0 ∨ i = 1 ∨ i = 2 ∨ i = 3 ∨ i = 4 ∨ i = 5 ∨ i = 6 ∨ i = 7 := by omega
  rcases h8 with rfl | rfl | rfl | rfl | rfl | rfl | rfl | rfl <;> decide
theorem lK_ok {i : Nat} (h : i < 4) : isK (lK i) = true ∧ isL (lK i) = true := by
  have h4 : i = 0 ∨ i = 1 ∨ i = 2 ∨ i = 3 := by omega
  rcases h4 with rfl | rfl | rfl | rfl <;> decide
theorem be_fix {w : Nat} {z : Int} (hw : w = 1 ∨ w = 2) : numI (be w z) = z ↔ 0 ≤ z ∧ z ≤ (if w = 1 then 255 else 65535) := by
  constructor
  · intro h
    have hb := numI_bd _ (be w z) (be_len w z) (be_byt w z)
    rw [h] at hb
    rcases hw with rfl | rfl
    · rw [if_pos rfl]; have : (256 : Int) ^ 1 = 256 := by decide
      omega
    · rw [if_neg (by decide)]; have : (256 : Int) ^ 2 = 65536 := by decide
      omega
  · intro h
    refine numI_be w z h.1 ?_
    rcases hw with rfl | rfl
    · rw [if_pos rfl] at h; have : (256 : Int) ^ 1 = 256 := by decide
      omega
    · rw [if_neg (by decide)] at h; have : (256 : Int) ^ 2 = 65536 := by decide
      omega
theorem cnt_may {p : Rq} : cntB p = true ↔ mayB p = true ∧ (p.k ≠ 4 → p.d = []) := by
  unfold cntB mayB
  by_cases h3 : p.k = 3
  · rw [if_pos h3, if_pos h3]
    simp [h3]
    exact ⟨fun h => ⟨⟨h.1, h.2.1⟩, h.2.2⟩, fun h => ⟨h.1.1, h.1.2, h.2⟩⟩
  · rw [if_neg h3, if_neg h3]
    by_cases h5 : p.k = 5
    · rw [if_pos h5, if_neg (by omega), if_pos h5]
      simp [h5]
      exact ⟨fun h => ⟨⟨h.1, h.2.1⟩, h.2.2⟩, fun h => ⟨h.1.1, h.1.2, h.2⟩⟩
    · rw [if_neg h5]
      by_cases h4 : p.k = 4
      · rw [if_pos h4, if_pos h4]
        simp [h4]
        omega
      · rw [if_neg h4, if_neg h4, if_neg h5]
        simp [h4]
theorem ref_right {p : Rq} (hp : RQ p) (hd : Byt p.d) (h5 : p.d.length ≤ 5000) : refR p = rightQ p := by
  cases hk : kindB p.k with
  | false => unfold refR rightQ; rw [hk]; rfl
  | true =>
    obtain ⟨l1, l2, l3, l4⟩ := let_list hk
    obtain ⟨a1, a2, a3⟩ := am_let hk
    have rq := reL_ok hp hd h5 hk
    have hlen : (joinL (fieldW p) (lets (letS p.k))).length ≤ 10000 := by have := wrL_len hp hk; unfold wrL at this; omega
    have rv := run_val hp hd _ l3 l4 (let_last hk) (pz p.k) (pz_ok hp.k) hlen
    have rn := fun l hl hn => valL_run (l := l) hl (lets (letS p.k)) l3 hn (pz p.k, wrL p, false)
    have kk : (reL p).1.k = p.k := run_k _ _
    have same : sameB p (reL p).1 = true ↔ ∀ l, isL l = true → valL p l = valL (reL p).1 l := by
      constructor
      · intro h l _
        rw [← sameB_eq hp rq.1 h]
      · intro h
        have e := rq_ext kk.symm h
        rw [← e]
        exact sameB_refl p
    have main : (∀ l, isL l = true → valL p l = valL (reL p).1 l) ↔ ((p.k ≠ 4 → p.d = []) ∧ (∀ i, i < 8 → nOk p i = true) ∧ (∀ i, i < 4 → kOk p i = true)) := by
      have num : ∀ i, i < 8 → ((valL p (lN i) = valL (reL p).1 (lN i)) ↔ nOk p i = true) := fun i hi => by
        obtain ⟨o1, o2, o3⟩ := lN_ok hi
        have hw : wN i = 1 ∨ wN i = 2 := wN_cases i
        have e0 : valL p (lN i) = [numA p i] := if_pos o1
        have hm : mostN p.k i = if lN i ∈ lets (letS p.k) then (if wN i = 1 then 255 else 65535) else 0 := by
          unfold mostN
          rw [a1 i hi]
          simp only [decide_eq_true_eq]
        unfold nOk
        rw [hm, e0, Bool.and_eq_true, decide_eq_true_eq, decide_eq_true_eq]
        by_cases hin : lN i ∈ lets (letS p.k)
        · have e1 : valL (reL p).1 (lN i) = [numI (be (wN i) (numA p i))] := by
            have := rv (lN i) hin
            rw [show cutV p (lN i) = [numI (be (widN (lN i)) (numL p (lN i)))] from if_pos o1, o2] at this
            exact this
          rw [e1, if_pos hin, List.cons.injEq]
          have := be_fix (z := numA p i) hw
          constructor
          · intro h; exact this.1 h.1.symm
          · intro h; exact ⟨(this.2 h).symm, rfl⟩
        · have e1 : valL (reL p).1 (lN i) = [0] := by
            have := rn (lN i) o3 hin
            have hz : valL (pz p.k) (lN i) = [0] := by
              have h8 : i = 0 ∨ i = 1 ∨ i = 2 ∨ i = 3 ∨ i = 4 ∨ i = 5 ∨ i = 6 ∨ i = 7 := by omega
              rcases h8 with rfl | rfl | rfl | rfl | rfl | rfl | rfl | rfl <;> rfl
            exact this.trans hz
          rw [e1, if_neg hin, List.cons.injEq]
          constructor
          · intro h; omega
          · intro h; exact ⟨by omega, rfl⟩
      have key : ∀ i, i < 4 → ((valL p (lK i) = valL (reL p).1 (lK i)) ↔ kOk p i = true) := fun i hi => by
        obtain ⟨o1, o3⟩ := lK_ok hi
        have e0 : valL p (lK i) = keyA p i := by unfold valL; rw [if_neg (keyN o1), if_pos o1]; rfl
        unfold kOk
        rw [a2 i hi, e0, Bool.or_eq_true, decide_eq_true_eq, decide_eq_true_eq]
        by_cases hin : lK i ∈ lets (letS p.k)
        · have e1 : valL (reL p).1 (lK i) = keyA p i := by
            have := rv (lK i) hin
            rw [show cutV p (lK i) = valL p (lK i) from if_neg (keyN o1), e0] at this
            exact this
          rw [e1]
          exact ⟨fun _ => .inl hin, fun _ => rfl⟩
        · have e1 : valL (reL p).1 (lK i) = z32 := by
            have := rn (lK i) o3 hin
            have hz : valL (pz p.k) (lK i) = z32 := by
              have h4 : i = 0 ∨ i = 1 ∨ i = 2 ∨ i = 3 := by omega
              rcases h4 with rfl | rfl | rfl | rfl <;> rfl
            exact this.trans hz
          rw [e1]
          exact ⟨fun h => .inr h, fun h => h.resolve_left hin⟩
      have dat : (valL p 100 = valL (reL p).1 100) ↔ (p.k ≠ 4 → p.d = []) := by
        by_cases h4 : p.k = 4
        · have e1 := rv 100 (a3.1 h4)
          exact ⟨fun _ h => absurd h4 h, fun _ => e1.symm⟩
        · have e1 : valL (reL p).1 100 = [] := rn 100 rfl (fun h => h4 (a3.2 h))
          rw [e1]
          exact ⟨fun h _ => h, fun h => h h4⟩
      constructor
      · intro h
        exact ⟨dat.1 (h 100 rfl), fun i hi => (num i hi).1 (h _ (lN_ok hi).2.2), fun i hi => (key i hi).1 (h _ (lK_ok hi).2)⟩
      · rintro ⟨h1, h2, h3⟩ l hl
        by_cases hn : isN l = true
        · obtain ⟨i, hi, rfl⟩ := isN_lN hn
          exact (num i hi).2 (h2 i hi)
        · by_cases hkk : isK l = true
          · obtain ⟨i, hi, rfl⟩ := isK_lK hkk
            exact (key i hi).2 (h3 i hi)
          · obtain rfl := not100 hl hn hkk
            exact dat.2 h1
    have all8 : (List.range 8).all (nOk p) = true ↔ ∀ i, i < 8 → nOk p i = true := by
      rw [List.all_eq_true]
      exact ⟨fun h i hi => h i (List.mem_range.2 hi), fun h x hx => h x (List.mem_range.1 hx)⟩
    have all4 : (List.range 4).all (kOk p) = true ↔ ∀ i, i < 4 → kOk p i = true := by
      rw [List.all_eq_true]
      exact ⟨fun h i hi => h i (List.mem_range.2 hi), fun h x hx => h x (List.mem_range.1 hx)⟩
    rw [Bool.eq_iff_iff]
    unfold refR rightQ
    rw [hk, Bool.true_and, Bool.true_and, Bool.and_eq_true, Bool.and_eq_true, Bool.and_eq_true, all8, all4, same, main, cnt_may]
    exact ⟨fun h => ⟨h.1.1, h.1.2, h.2⟩, fun h => ⟨⟨h.1, h.2.1⟩, h.2.2⟩⟩
end Go.Proofs.Ytdohggpajhkkhaa
