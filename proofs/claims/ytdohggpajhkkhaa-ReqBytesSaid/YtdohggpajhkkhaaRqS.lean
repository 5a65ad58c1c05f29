/-
  Bytes that are cut short, or of which one more stands behind, as lists. Condition: none.
-/
import Derived.Test.YtdohggpajhkkhaaRqR
namespace Go.Proofs.Ytdohggpajhkkhaa
open Go.RowKit
/-- How many bytes a kind's fields have, without the data. -/
def flen (k : Int) : Nat := if k = 1 then 33 else if k = 2 then 2 else if k = 3 then 7 else if k = 4 then 5 else if k = 5 then 7 else if k = 6 then 5 else if k = 7 then 3 else if k = 8 then 5 else if k = 9 then 4 else if k = 10 then 2 else if k = 11 then 2 else if k = 12 then 98 else if k = 13 then 2 else if k = 14 then 101 else if k = 15 then 5 else if k = 16 then 1 else 0
def dlen (p : Rq) : Nat := if p.k = 4 then p.d.length else 0
theorem wrL_fix {p : Rq} (hp : RQ p) (h : kindB p.k = true) : (wrL p).length = flen p.k + dlen p := by
  have l1 := hp.o.1
  have l2 := hp.f.1
  have l3 := hp.m.1
  have l4 := hp.x.1
  unfold wrL dlen
  rcases kind_cases h with e | e | e | e | e | e | e | e | e | e | e | e | e | e | e | e
  · rw [e]
    show (joinL (fieldW p) [116, 111]).length = _
    simp only [joinL, List.flatMap_cons, List.flatMap_nil, List.append_nil, List.length_append]
    rw [show (fieldW p 116).length = 1 from be_len _ _]
    rw [show (fieldW p 111).length = 32 from l1]
    rfl
  · rw [e]
    show (joinL (fieldW p) [115]).length = _
    simp only [joinL, List.flatMap_cons, List.flatMap_nil, List.append_nil]
    rw [show (fieldW p 115).length = 2 from be_len _ _]
    rfl
  · rw [e]
    show (joinL (fieldW p) [115, 118, 98, 99]).length = _
    simp only [joinL, List.flatMap_cons, List.flatMap_nil, List.append_nil, List.length_append]
    rw [show (fieldW p 115).length = 2 from be_len _ _]
    rw [show (fieldW p 118).length = 1 from be_len _ _]
    rw [show (fieldW p 98).length = 2 from be_len _ _]
    rw [show (fieldW p 99).length = 2 from be_len _ _]
    rfl
  · rw [e]
    show (joinL (fieldW p) [115, 118, 98, 100]).length = _
    simp only [joinL, List.flatMap_cons, List.flatMap_nil, List.append_nil, List.length_append]
    rw [show (fieldW p 115).length = 2 from be_len _ _]
    rw [show (fieldW p 118).length = 1 from be_len _ _]
    rw [show (fieldW p 98).length = 2 from be_len _ _]
    rw [show (fieldW p 100).length = p.d.length from rfl]
    show _ = 5 + p.d.length
    omega
  · rw [e]
    show (joinL (fieldW p) [115, 118, 98, 99]).length = _
    simp only [joinL, List.flatMap_cons, List.flatMap_nil, List.append_nil, List.length_append]
    rw [show (fieldW p 115).length = 2 from be_len _ _]
    rw [show (fieldW p 118).length = 1 from be_len _ _]
    rw [show (fieldW p 98).length = 2 from be_len _ _]
    rw [show (fieldW p 99).length = 2 from be_len _ _]
    rfl
  · rw [e]
    show (joinL (fieldW p) [115, 118, 99]).length = _
    simp only [joinL, List.flatMap_cons, List.flatMap_nil, List.append_nil, List.length_append]
    rw [show (fieldW p 115).length = 2 from be_len _ _]
    rw [show (fieldW p 118).length = 1 from be_len _ _]
    rw [show (fieldW p 99).length = 2 from be_len _ _]
    rfl
  · rw [e]
    show (joinL (fieldW p) [115, 118]).length = _
    simp only [joinL, List.flatMap_cons, List.flatMap_nil, List.append_nil, List.length_append]
    rw [show (fieldW p 115).length = 2 from be_len _ _]
    rw [show (fieldW p 118).length = 1 from be_len _ _]
    rfl
  · rw [e]
    show (joinL (fieldW p) [115, 118, 99]).length = _
    simp only [joinL, List.flatMap_cons, List.flatMap_nil, List.append_nil, List.length_append]
    rw [show (fieldW p 115).length = 2 from be_len _ _]
    rw [show (fieldW p 118).length = 1 from be_len _ _]
    rw [show (fieldW p 99).length = 2 from be_len _ _]
    rfl
  · rw [e]
    show (joinL (fieldW p) [115, 118, 110]).length = _
    simp only [joinL, List.flatMap_cons, List.flatMap_nil, List.append_nil, List.length_append]
    rw [show (fieldW p 115).length = 2 from be_len _ _]
    rw [show (fieldW p 118).length = 1 from be_len _ _]
    rw [show (fieldW p 110).length = 1 from be_len _ _]
    rfl
  · rw [e]
    show (joinL (fieldW p) [115]).length = _
    simp only [joinL, List.flatMap_cons, List.flatMap_nil, List.append_nil]
    rw [show (fieldW p 115).length = 2 from be_len _ _]
    rfl
  · rw [e]
    show (joinL (fieldW p) [115]).length = _
    simp only [joinL, List.flatMap_cons, List.flatMap_nil, List.append_nil]
    rw [show (fieldW p 115).length = 2 from be_len _ _]
    rfl
  · rw [e]
    show (joinL (fieldW p) [115, 111, 102, 120]).length = _
    simp only [joinL, List.flatMap_cons, List.flatMap_nil, List.append_nil, List.length_append]
    rw [show (fieldW p 115).length = 2 from be_len _ _]
    rw [show (fieldW p 111).length = 32 from l1]
    rw [show (fieldW p 102).length = 32 from l2]
    rw [show (fieldW p 120).length = 32 from l4]
    rfl
  · rw [e]
    show (joinL (fieldW p) [115]).length = _
    simp only [joinL, List.flatMap_cons, List.flatMap_nil, List.append_nil]
    rw [show (fieldW p 115).length = 2 from be_len _ _]
    rfl
  · rw [e]
    show (joinL (fieldW p) [116, 111, 109, 120, 114, 113]).length = _
    simp only [joinL, List.flatMap_cons, List.flatMap_nil, List.append_nil, List.length_append]
    rw [show (fieldW p 116).length = 1 from be_len _ _]
    rw [show (fieldW p 111).length = 32 from l1]
    rw [show (fieldW p 109).length = 32 from l3]
    rw [show (fieldW p 120).length = 32 from l4]
    rw [show (fieldW p 114).length = 2 from be_len _ _]
    rw [show (fieldW p 113).length = 2 from be_len _ _]
    rfl
  · rw [e]
    show (joinL (fieldW p) [116, 114, 113]).length = _
    simp only [joinL, List.flatMap_cons, List.flatMap_nil, List.append_nil, List.length_append]
    rw [show (fieldW p 116).length = 1 from be_len _ _]
    rw [show (fieldW p 114).length = 2 from be_len _ _]
    rw [show (fieldW p 113).length = 2 from be_len _ _]
    rfl
  · rw [e]
    show (joinL (fieldW p) [116]).length = _
    simp only [joinL, List.flatMap_cons, List.flatMap_nil, List.append_nil]
    rw [show (fieldW p 116).length = 1 from be_len _ _]
    rfl
theorem take_bytR {p q : Rq} {n : Nat} (h : bytR q = (bytR p).take n) : q.k = p.k ∧ (wrL q).length + 2 = min n ((wrL p).length + 2) := by
  have hl := congrArg List.length h
  rw [List.length_take] at hl
  simp only [bytR, List.length_cons] at hl
  have h2 : n ≥ 2 := by omega
  obtain ⟨m, rfl⟩ : ∃ m, n = m + 2 := ⟨n - 2, by omega⟩
  simp only [bytR, List.take_succ_cons, List.cons.injEq] at h
  exact ⟨h.2.1, by omega⟩
theorem snoc_bytR {p q : Rq} {m : Int} (h : bytR q = bytR p ++ [m]) : q.k = p.k ∧ (wrL q).length = (wrL p).length + 1 := by
  have hl := congrArg List.length h
  simp only [bytR, List.length_cons, List.length_append, List.length_nil] at hl
  simp only [bytR, List.cons_append, List.cons.injEq] at h
  exact ⟨h.2.1, by omega⟩
theorem may4 {p : Rq} (h : p.k = 4) (hm : mayB p = true) : p.d.length % 512 = 0 ∧ 1 ≤ p.d.length / 512 ∧ p.d.length / 512 ≤ 8 := by
  unfold mayB at hm
  rw [if_neg (by omega), if_pos h] at hm
  simpa using hm
theorem right_may {p : Rq} (h : rightQ p = true) : mayB p = true := by
  unfold rightQ at h
  simp only [Bool.and_eq_true] at h
  exact h.2.1
theorem more_no {p : Rq} (hp : RQ p) (hd : Byt p.d) (h5 : p.d.length ≤ 5000) (h : rightQ p = true) (m : Int) (hm : 0 ≤ m ∧ m ≤ 255) : dOk (bytR p ++ [m]) = false := by
  cases hk : dOk (bytR p ++ [m]) with
  | false => rfl
  | true =>
    exfalso
    have hb : Byt (bytR p ++ [m]) := (bytR_byt hp hd h).append (fun x hx => by simp at hx; omega)
    have hl : (bytR p ++ [m]).length ≤ 10000 := by have := bytR_len hp h5 h; have := wrL_len hp (right_kind h); simp only [bytR, List.length_append, List.length_cons, List.length_nil] at *; omega
    obtain ⟨hq, e, _, hr⟩ := dec_back hb hl hk
    obtain ⟨ek, el⟩ := snoc_bytR e.symm
    have f1 := wrL_fix hp (right_kind h)
    have f2 := wrL_fix hq (right_kind hr)
    rw [ek] at f2
    by_cases h4 : p.k = 4
    · have m1 := may4 h4 (right_may h)
      have m2 := may4 (ek.trans h4) (right_may hr)
      have d1 : dlen p = p.d.length := if_pos h4
      have d2 : dlen (dA (bytR p ++ [m])).1 = (dA (bytR p ++ [m])).1.d.length := if_pos (ek.trans h4)
      omega
    · have d1 : dlen p = 0 := if_neg h4
      have d2 : dlen (dA (bytR p ++ [m])).1 = 0 := if_neg (by rw [ek]; exact h4)
      omega
theorem cut_parts {p : Rq} (hp : RQ p) (hd : Byt p.d) (h5 : p.d.length ≤ 5000) (h : rightQ p = true) (n : Nat) (hn : n < (bytR p).length) (hk : dOk ((bytR p).take n) = true) : p.k = 4 ∧ 7 < n ∧ (n - 7) % 512 = 0 := by
  have hb : Byt ((bytR p).take n) := (bytR_byt hp hd h).take n
  have hl : ((bytR p).take n).length ≤ 10000 := by have := bytR_len hp h5 h; rw [List.length_take]; omega
  obtain ⟨hq, e, _, hr⟩ := dec_back hb hl hk
  obtain ⟨ek, el⟩ := take_bytR e.symm
  have f1 := wrL_fix hp (right_kind h)
  have f2 := wrL_fix hq (right_kind hr)
  rw [ek] at f2
  simp only [bytR, List.length_cons] at hn
  by_cases h4 : p.k = 4
  · have m2 := may4 (ek.trans h4) (right_may hr)
    have d1 : dlen p = p.d.length := if_pos h4
    have d2 : dlen (dA ((bytR p).take n)).1 = (dA ((bytR p).take n)).1.d.length := if_pos (ek.trans h4)
    have e5 : flen p.k = 5 := by rw [h4]; rfl
    exact ⟨h4, by omega, by omega⟩
  · exfalso
    have d1 : dlen p = 0 := if_neg h4
    have d2 : dlen (dA ((bytR p).take n)).1 = 0 := if_neg (by rw [ek]; exact h4)
    omega
theorem len4 {p : Rq} (hp : RQ p) (h : rightQ p = true) (h4 : p.k = 4) : (bytR p).length = 7 + p.d.length := by
  have f1 := wrL_fix hp (right_kind h)
  have d1 : dlen p = p.d.length := if_pos h4
  have e5 : flen p.k = 5 := by rw [h4]; rfl
  simp only [bytR, List.length_cons]
  omega
theorem wr4 {p : Rq} (h4 : p.k = 4) : wrL p = be 2 p.s ++ (be 1 p.v ++ (be 2 p.b ++ p.d)) := by
  unfold wrL
  rw [h4]
  show joinL (fieldW p) [115, 118, 98, 100] = _
  simp only [joinL, List.flatMap_cons, List.flatMap_nil, List.append_nil]
  rfl
theorem re4 {p : Rq} (h4 : p.k = 4) : (reL p).1 = { pz 4 with s := numI (be 2 p.s), v := numI (be 1 p.v), b := numI (be 2 p.b), d := p.d } := by
  unfold reL
  rw [wr4 h4, h4]
  show (runR [115, 118, 98, 100] _).1 = _
  have g1 := got_parts (be 2 p.s) (be 1 p.v ++ (be 2 p.b ++ p.d)) 2 (by rw [be_len]; rfl)
  have g2 := got_parts (be 1 p.v) (be 2 p.b ++ p.d) 1 (by rw [be_len]; rfl)
  have g3 := got_parts (be 2 p.b) p.d 2 (by rw [be_len]; rfl)
  have g4 := got_parts p.d [] (p.d.length : Nat) rfl
  rw [List.append_nil] at g4
  have s1 : stR 115 (pz 4, be 2 p.s ++ (be 1 p.v ++ (be 2 p.b ++ p.d)), false) = (setN (pz 4) 115 (numI (be 2 p.s)), be 1 p.v ++ (be 2 p.b ++ p.d), false) := by
    show (setN (pz 4) 115 (numI (got _ false 2)), rst _ false 2, shrt _ false 2) = _
    rw [g1.1, g1.2.1, g1.2.2]
  have s2 : ∀ b, stR 118 (b, be 1 p.v ++ (be 2 p.b ++ p.d), false) = (setN b 118 (numI (be 1 p.v)), be 2 p.b ++ p.d, false) := fun b => by
    show (setN b 118 (numI (got _ false 1)), rst _ false 1, shrt _ false 1) = _
    rw [g2.1, g2.2.1, g2.2.2]
  have s3 : ∀ b, stR 98 (b, be 2 p.b ++ p.d, false) = (setN b 98 (numI (be 2 p.b)), p.d, false) := fun b => by
    show (setN b 98 (numI (got _ false 2)), rst _ false 2, shrt _ false 2) = _
    rw [g3.1, g3.2.1, g3.2.2]
  have s4 : ∀ b : Rq, stR 100 (b, p.d, false) = ({ b with d := p.d }, [], false) := fun b => by
    show ({ b with d := got p.d false (p.d.length : Nat) }, rst p.d false (p.d.length : Nat), shrt p.d.length false (p.d.length : Nat)) = _
    rw [g4.1, g4.2.1, g4.2.2]
  show (stR 100 (stR 98 (stR 118 (stR 115 _)))).1 = _
  rw [s1, s2, s3, s4]
  rfl
theorem cut_yes {p : Rq} (hp : RQ p) (hd : Byt p.d) (h5 : p.d.length ≤ 5000) (h : rightQ p = true) (h4 : p.k = 4) (n : Nat) (hn : n < (bytR p).length) (h7 : 7 < n) (h512 : (n - 7) % 512 = 0) : dOk ((bytR p).take n) = true := by
  have hl := len4 hp h h4
  have m1 := may4 h4 (right_may h)
  have e : (bytR p).take n = bytR { p with d := p.d.take (n - 7) } := by
    have w2 : wrL { p with d := p.d.take (n - 7) } = be 2 p.s ++ (be 1 p.v ++ (be 2 p.b ++ p.d.take (n - 7))) := wr4 (p := { p with d := p.d.take (n - 7) }) h4
    unfold bytR
    rw [w2, wr4 h4]
    have e0 : 82 :: p.k :: (be 2 p.s ++ (be 1 p.v ++ (be 2 p.b ++ p.d))) = (82 :: p.k :: (be 2 p.s ++ (be 1 p.v ++ be 2 p.b))) ++ p.d := by simp
    have e1 : (82 :: p.k :: (be 2 p.s ++ (be 1 p.v ++ be 2 p.b))).length = 7 := by simp [be_len]
    rw [e0, List.take_append, e1, List.take_of_length_le (by rw [e1]; omega)]
    simp
  have hq : RQ { p with d := p.d.take (n - 7) } := ⟨hp.k, hp.s, hp.t, hp.v, hp.b, hp.c, hp.n, hp.r, hp.q, hp.o, hp.f, hp.m, hp.x, by show (p.d.take (n - 7)).length ≤ 10000; rw [List.length_take]; omega⟩
  have hdl : (p.d.take (n - 7)).length = n - 7 := by rw [List.length_take]; omega
  have hr : rightQ { p with d := p.d.take (n - 7) } = true := by
    have r1 := (right_re hp hd h5 h).1
    rw [re4 h4] at r1
    have r2 : (reL { p with d := p.d.take (n - 7) }).1 = { p with d := p.d.take (n - 7) } := by
      rw [re4 (p := { p with d := p.d.take (n - 7) }) h4]
      have := congrArg (fun r : Rq => ({ r with d := p.d.take (n - 7) } : Rq)) r1
      exact this
    unfold rightQ
    rw [r2, sameB_refl]
    have k1 : kindB p.k = true := right_kind h
    have k2 : mayB { p with d := p.d.take (n - 7) } = true := by
      unfold mayB
      show (if p.k = 3 then _ else if p.k = 4 then _ else _) = true
      rw [if_neg (by omega), if_pos h4, hdl]
      simp
      omega
    show (kindB p.k && (mayB { p with d := p.d.take (n - 7) } && true)) = true
    rw [k1, k2]
    rfl
  rw [e]
  exact (right_dec hq (hd.take _) (by show (p.d.take (n - 7)).length ≤ 5000; omega) hr).1
theorem sees_take {w : World} {x : Option Addr} {n c k : Nat} {xs : List Int} (h : Sees w (.slice x n c) xs) (hk : k ≤ xs.length) : Sees w (.slice x k c) (xs.take k) := by
  have hl : (xs.take k).length = k := by rw [List.length_take]; omega
  obtain ⟨hb, ⟨e, rfl⟩ | ⟨a, cap, e, rfl, hm⟩ | ⟨b, o, cap, e, hne, h1, h2, h3⟩⟩ := h
  · cases e
    obtain rfl : k = 0 := by simpa using hk
    exact ⟨hb, .inl ⟨rfl, rfl⟩⟩
  · cases e
    obtain rfl : k = 0 := by simpa using hk
    exact ⟨hb, .inr (.inl ⟨_, _, rfl, rfl, hm⟩)⟩
  · cases e
    by_cases h0 : k = 0
    · subst h0
      exact ⟨fun _ hx => by simp at hx, .inr (.inl ⟨_, c, rfl, rfl, h2⟩)⟩
    · refine ⟨hb.take k, .inr (.inr ⟨b, o, c, by rw [hl], fun e => by rw [e] at hl; simp at hl; omega, by omega, h2, fun i hi => ?_⟩)⟩
      rw [hl] at hi
      rw [h3 i (by omega)]
      simp [nth, List.getD, List.getElem?_take_of_lt hi]
end Go.Proofs.Ytdohggpajhkkhaa
