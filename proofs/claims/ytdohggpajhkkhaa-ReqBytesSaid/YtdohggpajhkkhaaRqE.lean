/-
  The letters of a kind; requests as they are read, as data. Condition: none.
-/
import Derived.Test.YtdohggpajhkkhaaRqD
import Derived.Test.YtdohggpajhkkhaaRqBR
namespace Go.Proofs.Ytdohggpajhkkhaa
open Go.RowKit
/-- The letters of a kind's fields. -/
def letS (k : Int) : ByteArray :=
  if k = 1 then ⟨#[116, 111]⟩ else if k = 2 then ⟨#[115]⟩ else if k = 3 then ⟨#[115, 118, 98, 99]⟩ else if k = 4 then ⟨#[115, 118, 98, 100]⟩ else if k = 5 then ⟨#[115, 118, 98, 99]⟩ else if k = 6 then ⟨#[115, 118, 99]⟩ else if k = 7 then ⟨#[115, 118]⟩ else if k = 8 then ⟨#[115, 118, 99]⟩ else if k = 9 then ⟨#[115, 118, 110]⟩ else if k = 10 then ⟨#[115]⟩ else if k = 11 then ⟨#[115]⟩ else if k = 12 then ⟨#[115, 111, 102, 120]⟩ else if k = 13 then ⟨#[115]⟩ else if k = 14 then ⟨#[116, 111, 109, 120, 114, 113]⟩ else if k = 15 then ⟨#[116, 114, 113]⟩ else if k = 16 then ⟨#[116]⟩ else ⟨#[]⟩
def kindB (k : Int) : Bool := decide (1 ≤ k) && decide (k ≤ 16)
theorem let_no {k : Int} (h : kindB k = false) : letS k = ⟨#[]⟩ := by
  unfold kindB at h
  have h1 : k < 1 ∨ 16 < k := by
    rcases Int.lt_or_le k 1 with h2 | h2
    · exact .inl h2
    · refine .inr (Int.not_le.1 fun h3 => ?_)
      simp [h2, h3] at h
  unfold letS
  repeat rw [if_neg (by omega)]
theorem kind_cases {k : Int} (h : kindB k = true) : k = 1 ∨ k = 2 ∨ k = 3 ∨ k = 4 ∨ k = 5 ∨ k = 6 ∨ k = 7 ∨ k = 8 ∨ k = 9 ∨ k = 10 ∨ k = 11 ∨ k = 12 ∨ k = 13 ∨ k = 14 ∨ k = 15 ∨ k = 16 := by
  unfold kindB at h
  simp only [Bool.and_eq_true, decide_eq_true_eq] at h
  omega
theorem let_ok (k : Int) : ∀ i (h : i < (letS k).size), isL ((letS k)[i]'h).toNat = true := by
  cases hb : kindB k with
  | false => rw [let_no hb]; intro i h; exact absurd h (Nat.not_lt_zero i)
  | true => rcases kind_cases hb with rfl | rfl | rfl | rfl | rfl | rfl | rfl | rfl | rfl | rfl | rfl | rfl | rfl | rfl | rfl | rfl <;> decide
set_option maxRecDepth 100000 in
set_option maxHeartbeats 2000000 in
theorem lettersOf (k : Int) (w : World) : Calls Try.prog 20 #[.int .i64 k] w fun e w' => e = .returned (.string (letS k)) ∧ w = w' := by
  cases hb : kindB k with
  | true =>
    rcases kind_cases hb with rfl | rfl | rfl | rfl | rfl | rfl | rfl | rfl | rfl | rfl | rfl | rfl | rfl | rfl | rfl | rfl
    all_goals
      clear hb
      go_enter Try.func20, Try.ntmps20
      go_wp2
      go_ret
      exact ⟨rfl, rfl⟩
  | false =>
    have e := let_no hb
    rw [e]
    clear e
    have h1 : k < 1 ∨ 16 < k := by
      unfold kindB at hb
      rcases Int.lt_or_le k 1 with h2 | h2
      · exact .inl h2
      · refine .inr (Int.not_le.1 fun h3 => ?_)
        simp [h2, h3] at hb
    clear hb
    have n1 : (k == 1) = false := beq_eq_false_iff_ne.2 (by omega)
    have n2 : (k == 2) = false := beq_eq_false_iff_ne.2 (by omega)
    have n3 : (k == 3) = false := beq_eq_false_iff_ne.2 (by omega)
    have n4 : (k == 4) = false := beq_eq_false_iff_ne.2 (by omega)
    have n5 : (k == 5) = false := beq_eq_false_iff_ne.2 (by omega)
    have n6 : (k == 6) = false := beq_eq_false_iff_ne.2 (by omega)
    have n7 : (k == 7) = false := beq_eq_false_iff_ne.2 (by omega)
    have n8 : (k == 8) = false := beq_eq_false_iff_ne.2 (by omega)
    have n9 : (k == 9) = false := beq_eq_false_iff_ne.2 (by omega)
    have n10 : (k == 10) = false := beq_eq_false_iff_ne.2 (by omega)
    have n11 : (k == 11) = false := beq_eq_false_iff_ne.2 (by omega)
    have n12 : (k == 12) = false := beq_eq_false_iff_ne.2 (by omega)
    have n13 : (k == 13) = false := beq_eq_false_iff_ne.2 (by omega)
    have n14 : (k == 14) = false := beq_eq_false_iff_ne.2 (by omega)
    have n15 : (k == 15) = false := beq_eq_false_iff_ne.2 (by omega)
    have n16 : (k == 16) = false := beq_eq_false_iff_ne.2 (by omega)
    clear h1
    go_enter Try.func20, Try.ntmps20
    go_wp2
    go_ret
    exact ⟨rfl, rfl⟩
def setN (p : Rq) (l : Nat) (z : Int) : Rq := if l = 115 then { p with s := z } else if l = 116 then { p with t := z } else if l = 118 then { p with v := z } else if l = 98 then { p with b := z } else if l = 99 then { p with c := z } else if l = 110 then { p with n := z } else if l = 114 then { p with r := z } else { p with q := z }
def setK (p : Rq) (l : Nat) (z : List Int) : Rq := if l = 111 then { p with o := z } else if l = 102 then { p with f := z } else if l = 109 then { p with m := z } else { p with x := z }
/-- A request so far, what is left of the bytes, whether there were too few. -/
abbrev RT := Rq × List Int × Bool
/-- One field more. -/
def stR (l : Nat) (a : RT) : RT :=
  if isN l = true then (setN a.1 l (numI (got a.2.1 a.2.2 (widN l))), rst a.2.1 a.2.2 (widN l), shrt a.2.1.length a.2.2 (widN l))
  else if isK l = true then (setK a.1 l (got a.2.1 a.2.2 32 ++ (keyL a.1 l).drop (got a.2.1 a.2.2 32).length), rst a.2.1 a.2.2 32, shrt a.2.1.length a.2.2 32)
  else ({ a.1 with d := got a.2.1 a.2.2 a.2.1.length }, rst a.2.1 a.2.2 a.2.1.length, shrt a.2.1.length a.2.2 a.2.1.length)
def runR (ls : List Nat) (a : RT) : RT := ls.foldl (fun a l => stR l a) a
theorem run_succ (s : ByteArray) (k l : Nat) (h : ∃ h : k < s.size, (s[k]'h).toNat = l) (a : RT) : runR ((lets s).take (k + 1)) a = stR l (runR ((lets s).take k) a) := by
  obtain ⟨h1, rfl⟩ := h
  rw [List.take_add_one, lets_at s k h1]
  simp [runR]
def z32 : List Int := List.replicate 32 0
theorem z32_ok : k32 z32 := ⟨by simp [z32], fun x h => by rw [z32, List.mem_replicate] at h; omega⟩
/-- The request of a kind, with nothing yet. -/
def pz (k : Int) : Rq := ⟨k, 0, 0, 0, 0, 0, 0, 0, 0, z32, z32, z32, z32, []⟩
theorem pz_ok {k : Int} (h : i64 k) : RQ (pz k) := by
  constructor <;> first | exact h | exact z32_ok | (show i64 0; unfold i64; omega) | exact Nat.zero_le _
theorem isN_cases {l : Nat} (h : isN l = true) : l = 115 ∨ l = 116 ∨ l = 118 ∨ l = 98 ∨ l = 99 ∨ l = 110 ∨ l = 114 ∨ l = 113 := by
  unfold isN at h
  simp only [Bool.or_eq_true, beq_iff_eq] at h
  omega
theorem isK_cases {l : Nat} (h : isK l = true) : l = 111 ∨ l = 102 ∨ l = 109 ∨ l = 120 := by
  unfold isK at h
  simp only [Bool.or_eq_true, beq_iff_eq] at h
  omega
theorem rc_setN {l : Nat} (hl : isN l = true) (p : Rq) (dv : Value) (z : Int) : (rc p dv).toArray.setIfInBounds (offL l) (.int .i64 z) = (rc (setN p l z) dv).toArray := by
  rw [List.setIfInBounds_toArray]
  rcases isN_cases hl with rfl | rfl | rfl | rfl | rfl | rfl | rfl | rfl <;> rfl
theorem splice (A B C Y : List Value) (n m : Nat) (hA : A.length = n) (hm : m ≤ B.length) : (A ++ (B ++ C)).take n ++ Y ++ (A ++ (B ++ C)).drop (n + m) = A ++ ((Y ++ B.drop m) ++ C) := by
  subst hA
  rw [List.take_left, ← List.drop_drop, List.drop_left, List.drop_append_of_le_length hm]
  simp
theorem kb_app (a b : List Int) : kb a ++ kb b = kb (a ++ b) := by simp [kb]
theorem kb_drop (a : List Int) (n : Nat) : (kb a).drop n = kb (a.drop n) := by simp [kb, List.map_drop]
theorem rc_setK {l : Nat} (hl : isK l = true) {p : Rq} (h : RQ p) (dv : Value) (ys : List Int) (hy : ys.length ≤ 32) :
    ((rc p dv).toArray.toList.take (offL l) ++ kb ys ++ (rc p dv).toArray.toList.drop (offL l + ys.length)).toArray = (rc (setK p l (ys ++ (keyL p l).drop ys.length)) dv).toArray := by
  have g9 : (h9 p).length = 9 := rfl
  congr 1
  show (rc p dv).take _ ++ _ ++ (rc p dv).drop _ = _
  rcases isK_cases hl with rfl | rfl | rfl | rfl
  · have e := splice (h9 p) (kb p.o) (kb p.f ++ (kb p.m ++ (kb p.x ++ [dv]))) (kb ys) 9 ys.length g9 (by rw [kb_len, h.o.1]; exact hy)
    rw [kb_drop, kb_app ys] at e
    exact e
  · have e := splice (h9 p ++ kb p.o) (kb p.f) (kb p.m ++ (kb p.x ++ [dv])) (kb ys) 41 ys.length (by simp [g9, kb_len, h.o.1]) (by rw [kb_len, h.f.1]; exact hy)
    rw [kb_drop, kb_app ys] at e
    rw [show rc p dv = (h9 p ++ kb p.o) ++ (kb p.f ++ (kb p.m ++ (kb p.x ++ [dv]))) by simp [rc]]
    refine e.trans ?_
    rw [List.append_assoc]
    rfl
  · have e := splice (h9 p ++ (kb p.o ++ kb p.f)) (kb p.m) (kb p.x ++ [dv]) (kb ys) 73 ys.length (by simp [g9, kb_len, h.o.1, h.f.1]) (by rw [kb_len, h.m.1]; exact hy)
    rw [kb_drop, kb_app ys] at e
    rw [show rc p dv = (h9 p ++ (kb p.o ++ kb p.f)) ++ (kb p.m ++ (kb p.x ++ [dv])) by simp [rc]]
    refine e.trans ?_
    simp only [List.append_assoc]
    rfl
  · have e := splice (h9 p ++ (kb p.o ++ (kb p.f ++ kb p.m))) (kb p.x) [dv] (kb ys) 105 ys.length (by simp [g9, kb_len, h.o.1, h.f.1, h.m.1]) (by rw [kb_len, h.x.1]; exact hy)
    rw [kb_drop, kb_app ys] at e
    rw [show rc p dv = (h9 p ++ (kb p.o ++ (kb p.f ++ kb p.m))) ++ (kb p.x ++ [dv]) by simp [rc]]
    refine e.trans ?_
    simp only [List.append_assoc]
    rfl
theorem rc_setD {p : Rq} (h : RQ p) (dv v : Value) (d : List Int) : (rc p dv).toArray.setIfInBounds 137 v = (rc { p with d := d } v).toArray := by
  rw [List.setIfInBounds_toArray]
  have g9 : (h9 p).length = 9 := rfl
  have e1 : ∀ v, rc p v = (h9 p ++ (kb p.o ++ (kb p.f ++ (kb p.m ++ kb p.x)))) ++ [v] := fun v => by simp [rc]
  have e2 : rc { p with d := d } v = rc p v := rfl
  rw [e2, e1, e1, List.set_append_right _ _ (by simp [g9, kb_len, h.o.1, h.f.1, h.m.1, h.x.1])]
  simp [g9, kb_len, h.o.1, h.f.1, h.m.1, h.x.1]
/-- What is read may be a request; what is left is no longer. -/
def RTok (a : RT) : Prop := RQ a.1 ∧ Byt a.2.1 ∧ a.2.1.length ≤ 10000
theorem rst_byt {xs : List Int} (h : Byt xs) (s : Bool) (n : Int) : Byt (rst xs s n) := by
  unfold rst
  split
  · exact h
  · exact h.drop _
theorem got_len' (xs : List Int) (s : Bool) (n : Int) : (got xs s n).length ≤ xs.length := by
  unfold got
  split
  · simp
  · rw [List.length_take]; omega
theorem stR_ok {l : Nat} {a : RT} (h : RTok a) : RTok (stR l a) := by
  obtain ⟨hp, hb, hl⟩ := h
  unfold stR
  split
  · rename_i hn
    refine ⟨?_, rst_byt hb _ _, Nat.le_trans (rst_len _ _ _) hl⟩
    have hz : i64 (numI (got a.2.1 a.2.2 (widN l))) := by
      have h1 := numI_got a.2.1 a.2.2 (widN l) hb
      have hw : widN l = 1 ∨ widN l = 2 := by unfold widN; split <;> (try split) <;> (try split) <;> simp
      have h2 : (256 : Int) ^ widN l ≤ 65536 := by rcases hw with e | e <;> rw [e] <;> decide
      unfold i64; omega
    obtain ⟨k, s, t, v, b, c, n, r, q, o, f, m, x, d⟩ := hp
    rcases isN_cases hn with rfl | rfl | rfl | rfl | rfl | rfl | rfl | rfl <;> constructor <;> assumption
  · split
    · rename_i hk
      refine ⟨?_, rst_byt hb _ _, Nat.le_trans (rst_len _ _ _) hl⟩
      have hg := got_le a.2.1 a.2.2 32
      have hz : ∀ y, k32 y → k32 (got a.2.1 a.2.2 32 ++ y.drop (got a.2.1 a.2.2 32).length) := fun y hy => by
        refine ⟨?_, (got_byt hb _ _).append (hy.2.drop _)⟩
        have := hy.1
        have hg' : (got a.2.1 a.2.2 32).length ≤ 32 := hg
        rw [List.length_append, List.length_drop]; omega
      obtain ⟨k, s, t, v, b, c, n, r, q, o, f, m, x, d⟩ := hp
      rcases isK_cases hk with rfl | rfl | rfl | rfl <;> constructor <;> first | assumption | exact hz _ o | exact hz _ f | exact hz _ m | exact hz _ x
    · refine ⟨?_, rst_byt hb _ _, Nat.le_trans (rst_len _ _ _) hl⟩
      obtain ⟨k, s, t, v, b, c, n, r, q, o, f, m, x, d⟩ := hp
      constructor <;> first | assumption | exact Nat.le_trans (got_len' _ _ _) hl
end Go.Proofs.Ytdohggpajhkkhaa
