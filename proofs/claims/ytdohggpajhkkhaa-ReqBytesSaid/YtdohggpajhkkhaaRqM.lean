/-
  Requests there and back, as lists. Condition: none.
-/
import Derived.Test.YtdohggpajhkkhaaRqLF
import Derived.Test.YtdohggpajhkkhaaRqLK
import Derived.Test.YtdohggpajhkkhaaRqLE
import Derived.Test.YtdohggpajhkkhaaRqLM
import Derived.Test.YtdohggpajhkkhaaRqLY
namespace Go.Proofs.Ytdohggpajhkkhaa
open Go.RowKit
theorem decodeC (v : Value) (xs : List Int) (hl : xs.length ≤ 10000) (w : World) (hs : Sees w v xs) : Calls Try.prog 12 #[v] w (DecP w xs) := by
  cases hf : (dF xs == 82) with
  | false => exact decode_f v xs hl w hs hf
  | true =>
    cases hk : kindB (dK xs) with
    | false => exact decode_k v xs hl w hs hf hk
    | true =>
      cases he : (endE (dA xs).2.1 (dA xs).2.2 == 0) with
      | false => exact decode_e v xs hl w hs hf hk he
      | true =>
        cases hm : mayB (dA xs).1 with
        | false => exact decode_m v xs hl w hs hf hk he hm
        | true => exact decode_y v xs hl w hs hf hk he hm
theorem be_numI : ∀ (n : Nat) (l : List Int), l.length = n → Byt l → be n (numI l) = l
  | 0, l, h, _ => by rw [List.length_eq_zero_iff.1 h]; rfl
  | n + 1, l, h, hb => by
    have hne : l ≠ [] := by intro e; rw [e] at h; simp at h
    obtain ⟨x, y, rfl⟩ : ∃ x y, l = x ++ [y] := ⟨l.dropLast, l.getLast hne, (List.dropLast_concat_getLast hne).symm⟩
    have hx : x.length = n := by simpa using h
    have hbx : Byt x := fun z hz => hb z (by simp [hz])
    have hy := hb y (by simp)
    rw [numI_snoc]
    show be n ((numI x * 256 + y) / 256) ++ [(numI x * 256 + y) % 256] = _
    rw [show (numI x * 256 + y) / 256 = numI x by omega, show (numI x * 256 + y) % 256 = y by omega, be_numI n x hx hbx]
theorem got_no {xs : List Int} {s : Bool} {n : Int} (hn : 0 ≤ n) (h : shrt xs.length s n = false) : s = false ∧ n.toNat ≤ xs.length ∧ got xs s n = xs.take n.toNat ∧ rst xs s n = xs.drop n.toNat := by
  have e1 : got xs s n = xs.take n.toNat := by unfold got; rw [if_neg (by rw [h]; simp)]
  have e2 : rst xs s n = xs.drop n.toNat := by unfold rst; rw [if_neg (by rw [h]; simp)]
  unfold shrt at h
  simp only [Bool.or_eq_false_iff, decide_eq_false_iff_not] at h
  exact ⟨h.1.1, by omega, e1, e2⟩
theorem fieldW_stR {l l' : Nat} (hl : isL l = true) (hl' : isL l' = true) (h : l ≠ l') (a : RT) : fieldW (stR l' a).1 l = fieldW a.1 l := by
  rcases isL_cases hl with rfl | rfl | rfl | rfl | rfl | rfl | rfl | rfl | rfl | rfl | rfl | rfl | rfl
  all_goals
    rcases isL_cases hl' with rfl | rfl | rfl | rfl | rfl | rfl | rfl | rfl | rfl | rfl | rfl | rfl | rfl <;> first | exact absurd rfl h | rfl
theorem fieldW_run {l : Nat} (hl : isL l = true) : ∀ (ls : List Nat), (∀ x ∈ ls, isL x = true) → l ∉ ls → ∀ a : RT, fieldW (runR ls a).1 l = fieldW a.1 l
  | [], _, _, _ => rfl
  | x :: r, h, hn, a => by
    show fieldW (runR r (stR x a)).1 l = _
    rw [fieldW_run hl r (fun y hy => h y (by simp [hy])) (fun hy => hn (by simp [hy])), fieldW_stR hl (h x (by simp)) (fun e => hn (by simp [e]))]
theorem numL_setN {l : Nat} (hl : isN l = true) (p : Rq) (z : Int) : numL (setN p l z) l = z := by
  rcases isN_cases hl with rfl | rfl | rfl | rfl | rfl | rfl | rfl | rfl <;> rfl
theorem keyL_setK {l : Nat} (hl : isK l = true) (p : Rq) (z : List Int) : keyL (setK p l z) l = z := by
  rcases isK_cases hl with rfl | rfl | rfl | rfl <;> rfl
theorem keyN {l : Nat} (hl : isK l = true) : ¬ isN l = true := by rcases isK_cases hl with rfl | rfl | rfl | rfl <;> decide
theorem stR_self {l : Nat} (hl : isL l = true) {a : RT} (h : RTok a) (hs : (stR l a).2.2 = false) : a.2.2 = false ∧ fieldW (stR l a).1 l ++ (stR l a).2.1 = a.2.1 := by
  obtain ⟨b, xs, s⟩ := a
  obtain ⟨hq, hb, hlen⟩ := h
  by_cases hn : isN l = true
  · have e1 : stR l (b, xs, s) = (setN b l (numI (got xs s (widN l))), rst xs s (widN l), shrt xs.length s (widN l)) := if_pos hn
    rw [e1] at hs ⊢
    obtain ⟨h1, h2, h3, h4⟩ := got_no (by omega) hs
    rw [Int.toNat_natCast] at h2 h3 h4
    refine ⟨h1, ?_⟩
    have e2 : fieldW (setN b l (numI (got xs s (widN l)))) l = be (widN l) (numI (got xs s (widN l))) := by unfold fieldW; rw [if_pos hn, numL_setN hn]
    show fieldW (setN b l (numI (got xs s (widN l)))) l ++ rst xs s (widN l) = xs
    rw [e2, be_numI _ _ (by rw [h3, List.length_take]; omega) (got_byt hb _ _), h3, h4, List.take_append_drop]
  · by_cases hk : isK l = true
    · have e1 : stR l (b, xs, s) = (setK b l (got xs s 32 ++ (keyL b l).drop (got xs s 32).length), rst xs s 32, shrt xs.length s 32) := by unfold stR; rw [if_neg hn, if_pos hk]
      rw [e1] at hs ⊢
      obtain ⟨h1, h2, h3, h4⟩ := got_no (by omega) hs
      have hg : (got xs s 32).length = 32 := by rw [h3, List.length_take]; have : (32 : Int).toNat = 32 := rfl; omega
      refine ⟨h1, ?_⟩
      have hkl : (keyL b l).length = 32 := (rc_key hk hq (.slice none 0 0)).1.1
      have e2 : fieldW (setK b l (got xs s 32 ++ (keyL b l).drop (got xs s 32).length)) l = got xs s 32 := by
        unfold fieldW
        rw [if_neg hn, if_pos hk, keyL_setK hk, hg, List.drop_of_length_le (by omega), List.append_nil]
      show fieldW (setK b l (got xs s 32 ++ (keyL b l).drop (got xs s 32).length)) l ++ rst xs s 32 = xs
      rw [e2, h3, h4, List.take_append_drop]
    · obtain rfl : l = 100 := by
        unfold isL at hl
        simp only [Bool.or_eq_true, beq_iff_eq] at hl
        rcases hl with (h1 | h1) | h1
        · exact absurd h1 hn
        · exact absurd h1 hk
        · exact h1
      have e1 : stR 100 (b, xs, s) = ({ b with d := got xs s xs.length }, rst xs s xs.length, shrt xs.length s xs.length) := rfl
      rw [e1] at hs ⊢
      obtain ⟨h1, h2, h3, h4⟩ := got_no (by omega) hs
      rw [Int.toNat_natCast] at h3 h4
      refine ⟨h1, ?_⟩
      show got xs s xs.length ++ rst xs s xs.length = xs
      rw [h3, h4, List.take_append_drop]
/-- What is read and leaves nothing is what would be written. -/
theorem run_back : ∀ (ls : List Nat), (∀ x ∈ ls, isL x = true) → ls.Nodup → ∀ a : RT, RTok a → (runR ls a).2 = ([], false) → a.2.2 = false ∧ joinL (fieldW (runR ls a).1) ls = a.2.1
  | [], _, _, a, _, h => by
    have h' : a.2 = ([], false) := h
    rw [h']
    exact ⟨rfl, by simp [joinL]⟩
  | l :: r, hL, hd, a, hok, h => by
    obtain ⟨h1, h2⟩ := List.nodup_cons.1 hd
    have ih := run_back r (fun x hx => hL x (by simp [hx])) h2 (stR l a) (stR_ok hok) h
    have hs := stR_self (hL l (by simp)) hok ih.1
    refine ⟨hs.1, ?_⟩
    have e : joinL (fieldW (runR (l :: r) a).1) (l :: r) = fieldW (runR r (stR l a)).1 l ++ joinL (fieldW (runR r (stR l a)).1) r := by simp [joinL, runR]
    rw [e, ih.2, fieldW_run (hL l (by simp)) r (fun x hx => hL x (by simp [hx])) h1]
    exact hs.2
theorem stR_k (l : Nat) (a : RT) : (stR l a).1.k = a.1.k := by
  unfold stR setN setK
  repeat' split
  all_goals rfl
theorem run_k : ∀ (ls : List Nat) (a : RT), (runR ls a).1.k = a.1.k
  | [], _ => rfl
  | l :: r, a => by
    show (runR r (stR l a)).1.k = _
    rw [run_k r, stR_k]
theorem fieldW_len {p : Rq} (hp : RQ p) {l : Nat} : (isN l = true → (fieldW p l).length = widN l) ∧ (isK l = true → (fieldW p l).length = 32) := by
  refine ⟨fun h => ?_, fun h => ?_⟩
  · unfold fieldW; rw [if_pos h, be_len]
  · unfold fieldW; rw [if_neg (keyN h), if_pos h, (rc_key h hp (.slice none 0 0)).1.1]
theorem got_parts (p r : List Int) (n : Int) (h : n = (p.length : Nat)) : got (p ++ r) false n = p ∧ rst (p ++ r) false n = r ∧ shrt (p ++ r).length false n = false := by
  subst h
  have hs : shrt (p ++ r).length false (p.length : Nat) = false := by
    unfold shrt
    simp only [Bool.false_or, Bool.or_eq_false_iff, decide_eq_false_iff_not, List.length_append]
    omega
  unfold got rst
  rw [hs]
  refine ⟨?_, ?_, rfl⟩
  · rw [if_neg (by simp), Int.toNat_natCast, List.take_left]
  · rw [if_neg (by simp), Int.toNat_natCast, List.drop_left]
/-- What is written is read with nothing left. -/
theorem run_all {p : Rq} (hp : RQ p) : ∀ (ls : List Nat), (∀ x ∈ ls, isL x = true) → (∀ x ∈ ls.dropLast, x ≠ 100) → ∀ b, (runR ls (b, joinL (fieldW p) ls, false)).2 = ([], false)
  | [], _, _, b => by simp [runR, joinL]
  | l :: r, hL, hd, b => by
    have e : joinL (fieldW p) (l :: r) = fieldW p l ++ joinL (fieldW p) r := by simp [joinL]
    have step : (stR l (b, joinL (fieldW p) (l :: r), false)).2 = (joinL (fieldW p) r, false) := by
      have hl := hL l (by simp)
      have hlen := fieldW_len hp (l := l)
      by_cases hn : isN l = true
      · have e1 : ∀ xs, stR l (b, xs, false) = (setN b l (numI (got xs false (widN l))), rst xs false (widN l), shrt xs.length false (widN l)) := fun xs => if_pos hn
        have g := got_parts (fieldW p l) (joinL (fieldW p) r) (widN l) (by rw [hlen.1 hn])
        rw [e1, e]
        show (rst _ _ _, shrt _ _ _) = _
        rw [g.2.1, g.2.2]
      · by_cases hk : isK l = true
        · have e1 : ∀ xs, stR l (b, xs, false) = (setK b l (got xs false 32 ++ (keyL b l).drop (got xs false 32).length), rst xs false 32, shrt xs.length false 32) := fun xs => by unfold stR; rw [if_neg hn, if_pos hk]
          have g := got_parts (fieldW p l) (joinL (fieldW p) r) 32 (by rw [hlen.2 hk]; rfl)
          rw [e1, e]
          show (rst _ _ _, shrt _ _ _) = _
          rw [g.2.1, g.2.2]
        · have e1 : ∀ xs, stR l (b, xs, false) = ({ b with d := got xs false xs.length }, rst xs false xs.length, shrt xs.length false xs.length) := fun xs => by unfold stR; rw [if_neg hn, if_neg hk]
          have hr : r = [] := by
            cases r with
            | nil => rfl
            | cons y z =>
              exfalso
              refine hd l (by simp) ?_
              unfold isL at hl
              simp only [Bool.or_eq_true, beq_iff_eq] at hl
              rcases hl with (h1 | h1) | h1
              · exact absurd h1 hn
              · exact absurd h1 hk
              · exact h1
          subst hr
          have g := got_parts (fieldW p l) [] ((fieldW p l ++ []).length : Nat) (by simp)
          have e2 : joinL (fieldW p) [] = [] := by simp [joinL]
          rw [e1, e, e2]
          show (rst _ _ _, shrt _ _ _) = _
          rw [g.2.1, g.2.2]
    have e3 : runR (l :: r) (b, joinL (fieldW p) (l :: r), false) = runR r (stR l (b, joinL (fieldW p) (l :: r), false)) := rfl
    rw [e3, show stR l (b, joinL (fieldW p) (l :: r), false) = ((stR l (b, joinL (fieldW p) (l :: r), false)).1, joinL (fieldW p) r, false) by rw [← step]]
    refine run_all hp r (fun x hx => hL x (by simp [hx])) (fun x hx => ?_) _
    cases r with
    | nil => simp at hx
    | cons y z => exact hd x (by simp at hx ⊢; exact .inr hx)
theorem run_d : ∀ (ls : List Nat) (a : RT) (n : Nat), a.1.d.length ≤ n → a.2.1.length ≤ n → (runR ls a).1.d.length ≤ n
  | [], _, _, h, _ => h
  | l :: r, a, n, h1, h2 => by
    refine run_d r (stR l a) n ?_ ?_
    · unfold stR
      split
      · rename_i hn
        rcases isN_cases hn with rfl | rfl | rfl | rfl | rfl | rfl | rfl | rfl <;> exact h1
      · split
        · rename_i hk
          rcases isK_cases hk with rfl | rfl | rfl | rfl <;> exact h1
        · exact Nat.le_trans (got_len' _ _ _) h2
    · unfold stR
      split
      · exact Nat.le_trans (rst_len _ _ _) h2
      · split
        · exact Nat.le_trans (rst_len _ _ _) h2
        · exact Nat.le_trans (rst_len _ _ _) h2
theorem be8_inj {x y : Int} (hx : i64 x) (hy : i64 y) (h : be 8 x = be 8 y) : x = y := by
  unfold i64 at hx hy
  rw [← be8_mod x, ← be8_mod y] at h
  have h1 := congrArg numI h
  rw [numI_be 8 _ (by omega) (by show _ < (256 : Int) ^ 8; have : (256 : Int) ^ 8 = 18446744073709551616 := by decide
                                 omega), numI_be 8 _ (by omega) (by have : (256 : Int) ^ 8 = 18446744073709551616 := by decide
                                                                    omega)] at h1
  omega
theorem sameB_eq {a b : Rq} (ha : RQ a) (hb : RQ b) (h : sameB a b = true) : a = b := by
  unfold sameB at h
  simp only [Bool.and_eq_true, decide_eq_true_eq] at h
  obtain ⟨hk, h⟩ := h
  rw [wholeL_eq, wholeL_eq] at h
  obtain ⟨e1, h⟩ := List.append_inj h (by simp [be_len])
  obtain ⟨e2, h⟩ := List.append_inj h (by simp [be_len])
  obtain ⟨e3, h⟩ := List.append_inj h (by simp [be_len])
  obtain ⟨e4, h⟩ := List.append_inj h (by simp [be_len])
  obtain ⟨e5, h⟩ := List.append_inj h (by simp [be_len])
  obtain ⟨e6, h⟩ := List.append_inj h (by simp [be_len])
  obtain ⟨e7, h⟩ := List.append_inj h (by simp [be_len])
  obtain ⟨e8, h⟩ := List.append_inj h (by simp [be_len])
  obtain ⟨e9, h⟩ := List.append_inj h (by rw [ha.o.1, hb.o.1])
  obtain ⟨e10, h⟩ := List.append_inj h (by rw [ha.f.1, hb.f.1])
  obtain ⟨e11, h⟩ := List.append_inj h (by rw [ha.m.1, hb.m.1])
  obtain ⟨e12, e13⟩ := List.append_inj h (by rw [ha.x.1, hb.x.1])
  have f1 := be8_inj ha.s hb.s e1
  have f2 := be8_inj ha.t hb.t e2
  have f3 := be8_inj ha.v hb.v e3
  have f4 := be8_inj ha.b hb.b e4
  have f5 := be8_inj ha.c hb.c e5
  have f6 := be8_inj ha.n hb.n e6
  have f7 := be8_inj ha.r hb.r e7
  have f8 := be8_inj ha.q hb.q e8
  obtain ⟨k, s, t, v, b', c, n, r, q, o, f, m, x, d⟩ := a
  obtain ⟨k2, s2, t2, v2, b2, c2, n2, r2, q2, o2, f2', m2, x2, d2⟩ := b
  simp only at hk f1 f2 f3 f4 f5 f6 f7 f8 e9 e10 e11 e12 e13
  subst hk f1 f2 f3 f4 f5 f6 f7 f8 e9 e10 e11 e12 e13
  rfl
theorem sameB_refl (a : Rq) : sameB a a = true := by unfold sameB; simp
/-- The bytes of a request. -/
def bytR (p : Rq) : List Int := 82 :: p.k :: wrL p
theorem let_last {k : Int} (h : kindB k = true) : ∀ x ∈ (lets (letS k)).dropLast, x ≠ 100 := by
  rcases kind_cases h with rfl | rfl | rfl | rfl | rfl | rfl | rfl | rfl | rfl | rfl | rfl | rfl | rfl | rfl | rfl | rfl <;> decide
theorem right_re {p : Rq} (hp : RQ p) (hd : Byt p.d) (h5 : p.d.length ≤ 5000) (h : rightQ p = true) : (reL p).1 = p ∧ (reL p).2 = ([], false) ∧ mayB p = true ∧ kindB p.k = true := by
  have hk := right_kind h
  unfold rightQ at h
  simp only [Bool.and_eq_true] at h
  obtain ⟨h1, _, h3, _⟩ := let_list hk
  exact ⟨(sameB_eq hp (reL_ok hp hd h5 hk).1 h.2.2).symm, run_all hp _ h3 (let_last hk) _, h.2.1, hk⟩
theorem numI_one (x : Int) : numI [x] = x := by simp [numI]
theorem d_bytes (k : Int) (r : List Int) : dF (82 :: k :: r) = 82 ∧ dK (82 :: k :: r) = k ∧ dY (82 :: k :: r) = (r, false) := by
  have g1 := got_parts [82] (k :: r) 1 rfl
  have g2 := got_parts [k] r 1 rfl
  have e1 : dX (82 :: k :: r) = (k :: r, false) := by
    unfold dX
    rw [show 82 :: k :: r = [82] ++ (k :: r) from rfl, g1.2.1, g1.2.2]
  refine ⟨?_, ?_, ?_⟩
  · unfold dF
    rw [show 82 :: k :: r = [82] ++ (k :: r) from rfl, g1.1, numI_one]
  · unfold dK
    rw [e1]
    show numI (got ([k] ++ r) false 1) = k
    rw [g2.1, numI_one]
  · unfold dY
    rw [e1]
    show (rst ([k] ++ r) false 1, shrt ([k] ++ r).length false 1) = _
    rw [g2.2.1, g2.2.2]
theorem d_bytR (p : Rq) : dF (bytR p) = 82 ∧ dK (bytR p) = p.k ∧ dA (bytR p) = reL p := by
  obtain ⟨h1, h2, h3⟩ := d_bytes p.k (wrL p)
  refine ⟨h1, h2, ?_⟩
  unfold dA bytR
  rw [h2, h3]
  rfl
/-- There and back. -/
theorem right_dec {p : Rq} (hp : RQ p) (hd : Byt p.d) (h5 : p.d.length ≤ 5000) (h : rightQ p = true) : dOk (bytR p) = true ∧ decP (bytR p) = p := by
  obtain ⟨h1, h2, h3, h4⟩ := right_re hp hd h5 h
  obtain ⟨d1, d2, d3⟩ := d_bytR p
  have hok : dOk (bytR p) = true := by
    unfold dOk
    rw [d1, d2, d3, h1, h2, h4, h3]
    rfl
  refine ⟨hok, ?_⟩
  unfold decP
  rw [if_pos hok, d3, h1]
theorem dec_parts {xs : List Int} (h : dOk xs = true) : dF xs = 82 ∧ kindB (dK xs) = true ∧ (dA xs).2 = ([], false) ∧ mayB (dA xs).1 = true := by
  unfold dOk at h
  simp only [Bool.and_eq_true, beq_iff_eq] at h
  refine ⟨h.1, h.2.1, ?_, h.2.2.2⟩
  have he := h.2.2.1
  unfold endE at he
  by_cases hs : (dA xs).2.2 = true
  · rw [if_pos hs] at he; omega
  · rw [if_neg hs] at he
    by_cases hx : (dA xs).2.1 = []
    · exact Prod.ext hx (by simpa using hs)
    · rw [if_neg hx] at he; omega
/-- What is decoded is encoded as it was. -/
theorem dec_back {xs : List Int} (hb : Byt xs) (hl : xs.length ≤ 10000) (h : dOk xs = true) : RQ (dA xs).1 ∧ xs = bytR (dA xs).1 ∧ (dA xs).1.d.length ≤ xs.length ∧ rightQ (dA xs).1 = true := by
  obtain ⟨h1, h2, h3, h4⟩ := dec_parts h
  have hk := dK_bd hb
  have ok0 : RTok (pz (dK xs), (dY xs).1, (dY xs).2) := ⟨pz_ok (by unfold i64; omega), rst_byt (rst_byt hb _ _) _ _, Nat.le_trans (dY_len xs) hl⟩
  obtain ⟨_, _, l3, l4⟩ := let_list h2
  have hr := run_back (lets (letS (dK xs))) l3 l4 _ ok0 h3
  have hkk : (dA xs).1.k = dK xs := run_k _ _
  have hw : wrL (dA xs).1 = (dY xs).1 := by
    unfold wrL
    rw [hkk]
    exact hr.2
  have hy : (dY xs).2 = false := hr.1
  have hq := runR_ok (lets (letS (dK xs))) ok0
  have e : xs = bytR (dA xs).1 := by
    unfold bytR
    rw [hkk, hw]
    have hy' : shrt (dX xs).1.length (dX xs).2 1 = false := hy
    obtain ⟨a1, a2, a3, a4⟩ := got_no (by omega) hy'
    have hx' : shrt xs.length false 1 = false := a1
    obtain ⟨b1, b2, b3, b4⟩ := got_no (by omega) hx'
    have t1 : (1 : Int).toNat = 1 := rfl
    rw [t1] at a2 a3 a4 b2 b3 b4
    cases xs with
    | nil => simp at b2
    | cons x ys =>
      have f1 : x = 82 := by
        have := h1
        unfold dF at this
        rw [b3] at this
        simpa [numI] using this
      have f2 : (dX (x :: ys)).1 = ys := b4
      rw [f2] at a2 a3 a4
      cases ys with
      | nil => simp at a2
      | cons y zs =>
        have f3 : dK (x :: y :: zs) = y := by
          unfold dK
          rw [f2, a3]
          simp [numI]
        have f4 : (dY (x :: y :: zs)).1 = zs := by
          show rst (dX (x :: y :: zs)).1 (dX (x :: y :: zs)).2 1 = zs
          rw [f2, a4]
          rfl
        subst f1
        rw [f3, f4]
  refine ⟨hq.1, e, ?_, ?_⟩
  · have := run_d (lets (letS (dK xs))) (pz (dK xs), (dY xs).1, (dY xs).2) xs.length (Nat.zero_le _) (dY_len xs)
    exact this
  · unfold rightQ
    have e2 : reL (dA xs).1 = dA xs := by
      unfold reL
      rw [hw, hkk]
      unfold dA
      rw [hy]
    rw [hkk, h2, h4, e2, sameB_refl]
    rfl
end Go.Proofs.Ytdohggpajhkkhaa
