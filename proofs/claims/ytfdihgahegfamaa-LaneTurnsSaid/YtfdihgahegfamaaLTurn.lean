/-
  For every number of lanes, every slice of bytes and every int the law LaneTurns of package casematelaw10 returns true, and the arguments read afterwards as before: who asks Next from the lane behind the last one each time leaves no lane waiting that has some. Condition: none.
-/
import Derived.Test.YtfdihgahegfamaaZ
import Derived.Deep.QuietTactic
import Derived.BigQuiet
import Derived.IntWalk
import Derived.Deep.LoopGhost
namespace Go.Proofs.Ytfdihgahegfamaa.laneTurns
open Go.ChangeShapes Go.WideShapes Go.ChangeAt Go.RowKit Go.Conc Go.Deep
theorem and_le (z : Int) (c : Nat) (hc : c ≤ 7) : ∃ m : Nat, bits .and .i64 z (c : Int) = (m : Int) ∧ m ≤ c := by
  refine ⟨(BitVec.ofInt 64 z &&& BitVec.ofInt 64 (c : Int)).toNat, ?_, ?_⟩
  · have e : bits .and .i64 z (c : Int) = IntKind.i64.wrap ((BitVec.ofInt 64 z &&& BitVec.ofInt 64 (c : Int)).toNat : Int) := rfl
    have h : (BitVec.ofInt 64 z &&& BitVec.ofInt 64 (c : Int)).toNat ≤ c := by
      rw [BitVec.toNat_and]
      refine Nat.le_trans Nat.and_le_right ?_
      simp [BitVec.toNat_ofInt]; omega
    rw [e, IntKind.wrap_i64]
    omega
  · rw [BitVec.toNat_and]
    refine Nat.le_trans Nat.and_le_right ?_
    simp [BitVec.toNat_ofInt]; omega
theorem and7 (z : Int) (h0 : 0 ≤ z) (h1 : z ≤ 255) : bits .and .u8 z 7 = ((z.toNat % 8 : Nat) : Int) := by
  obtain ⟨n, rfl⟩ : ∃ n : Nat, z = n := ⟨z.toNat, by omega⟩
  have h : ∀ n : Fin 256, bits .and .u8 ((n.val : Nat) : Int) 7 = ((n.val % 8 : Nat) : Int) := by decide +kernel
  have := h ⟨n, by omega⟩
  simpa using this
/-- How many things the lane i gets. -/
def cnt (cs : List Int) (i : Nat) : Nat := match cs[i]? with | some z => z.toNat % 8 | none => 0
theorem cnt_le (cs : List Int) (i : Nat) : cnt cs i ≤ 7 := by unfold cnt; split <;> omega
theorem cnt_at {cs : List Int} {i : Nat} {z : Int} (h : cs[i]? = some z) : cnt cs i = z.toNat % 8 := by unfold cnt; rw [h]
theorem cnt_no {cs : List Int} {i : Nat} (h : cs.length ≤ i) : cnt cs i = 0 := by unfold cnt; rw [List.getElem?_eq_none h]
/-- How many of the first are such. -/
def hm (p : Nat → Bool) : Nat → Nat
  | 0 => 0
  | i + 1 => hm p i + if p i then 1 else 0
theorem hm_le (p : Nat → Bool) : ∀ i, hm p i ≤ i
  | 0 => Nat.le_refl _
  | i + 1 => by have := hm_le p i; unfold hm; split <;> omega
theorem hm_mono (p : Nat → Bool) {i j : Nat} (h : i ≤ j) : hm p i ≤ hm p j := by
  induction j with
  | zero => obtain rfl : i = 0 := by omega
            exact Nat.le_refl _
  | succ j ih =>
    by_cases hij : i = j + 1
    · subst hij; exact Nat.le_refl _
    · have := ih (by omega)
      show _ ≤ hm p j + _
      omega
theorem hm_eq (p : Nat → Bool) {i j : Nat} (h : i ≤ j) (he : ∀ k, i ≤ k → k < j → p k = false) : hm p j = hm p i := by
  induction j with
  | zero => obtain rfl : i = 0 := by omega
            rfl
  | succ j ih =>
    by_cases hij : i = j + 1
    · subst hij; rfl
    · show hm p j + _ = _
      rw [ih (by omega) (fun k h1 h2 => he k h1 (by omega)), he j (by omega) (by omega)]
      simp
theorem hm_filter (p : Nat → Bool) : ∀ i, hm p i = ((List.range i).filter p).length
  | 0 => rfl
  | i + 1 => by
    rw [List.range_succ, List.filter_append, List.length_append, ← hm_filter p i]
    show hm p i + _ = _
    cases h : p i <;> simp [List.filter_cons, h]
/-- Turned round the lanes are as many. -/
theorem rot_perm : ∀ n, n ≤ 8 → ∀ s, s < n → List.isPerm ((List.range n).map (fun q => (s + q) % n)) (List.range n) = true := by decide
theorem hm_rot (p : Nat → Bool) (n s : Nat) (h : n ≤ 8) (hs : s < n) : hm (fun q => p ((s + q) % n)) n = hm p n := by
  rw [hm_filter, hm_filter]
  have h1 := List.isPerm_iff.1 (rot_perm n h s hs)
  have h2 := (h1.filter p).length_eq
  rw [← h2, List.filter_map, List.length_map]
  rfl
/-- Lanes that have Q. -/
structure LT (w0 wr : World) (g ga c0 n : Nat) (Q : Nat → List Int) : Prop where
  ln : ∃ Ql, LN 113 111 3 wr g ga c0 n 8 Ql ∧ ∀ j, j < n → Ql[j]? = some ((Q j).map (Value.int .i64))
  b0 : w0.heap.size ≤ c0
  hb : Below w0.heap.size w0 wr
theorem LN.far {TL TC TE : Nat} {w w' : World} {g ga c0 n size gh t : Nat} {cs : Array Value} {Q : List (List Value)} (h : LN TL TC TE w g ga c0 n size Q) (hh : w.heap[gh]? = some (.cells cs t (0, 0))) (h1 : t ≠ TL) (h2 : t ≠ TC) (h3 : t ≠ TE)
    (hk : ∀ j, j < w.heap.size → j ≠ gh → w'.heap[j]? = w.heap[j]?) : LN TL TC TE w' g ga c0 n size Q := by
  have hne : ∀ {k t' : Nat} {cs' : Array Value}, w.heap[k]? = some (.cells cs' t' (0, 0)) → t ≠ t' → k ≠ gh := fun hk ht e => by
    rw [e, hh] at hk; injection hk with hk; injection hk with _ ht2; exact ht ht2
  refine ⟨(hk g (Array.getElem?_eq_some_iff.1 h.hs).1 (hne h.hs h1)).trans h.hs, (hk ga (Array.getElem?_eq_some_iff.1 h.ha).1 (hne h.ha h2)).trans h.ha, h.hl, h.hn, fun i l hi => ?_⟩
  obtain ⟨buf, s, r, b1, b2, b3, b4⟩ := h.hc i l hi
  refine ⟨buf, s, r, (hk _ (Array.getElem?_eq_some_iff.1 b1).1 (fun e => by rw [e, hh] at b1; cases b1)).trans b1, b2, b3, fun j x hx => ?_⟩
  obtain ⟨q, hq1, hq2⟩ := b4 j x hx
  exact ⟨q, hq1, (hk q (Array.getElem?_eq_some_iff.1 hq2).1 (hne hq2 h3)).trans hq2⟩
theorem not_cs {wr : World} {g ga c0 n : Nat} {Q : List (List Value)} (h : LN 113 111 3 wr g ga c0 n 8 Q) {k t : Nat} {cs : Array Value} (hk : wr.heap[k]? = some (.cells cs t (0, 0))) : ¬ CS c0 n k := fun ⟨h1, h2⟩ => by
  obtain ⟨i, hi⟩ : ∃ i, k = c0 + i := ⟨k - c0, by omega⟩
  subst hi
  have hl := h.hl
  obtain ⟨b, s, r, h3, _⟩ := h.hc i (Q[i]'(by omega)) (List.getElem?_eq_getElem _)
  rw [hk] at h3; cases h3
theorem setQ {n : Nat} {Ql : List (List Value)} {Q Q' : Nat → List Int} (hl : Ql.length = n) (hq : ∀ j, j < n → Ql[j]? = some ((Q j).map (Value.int .i64))) (m : Nat) (hm : m < n) (h' : ∀ j, j < n → j ≠ m → Q' j = Q j) : ∀ j, j < n → (Ql.set m ((Q' m).map (Value.int .i64)))[j]? = some ((Q' j).map (Value.int .i64)) := fun j hj => by
  by_cases hjm : j = m
  · subst hjm; rw [List.getElem?_set_self (by omega)]
  · rw [h' j hj hjm, List.getElem?_set_ne (fun e => hjm e.symm)]; exact hq j hj
theorem LT.below {w0 wr w' : World} {g ga c0 n : Nat} {Q : Nat → List Int} (h : LT w0 wr g ga c0 n Q) (hb : Below wr.heap.size wr w') : LT w0 w' g ga c0 n Q := by
  obtain ⟨Ql, h1, h2⟩ := h.ln
  exact ⟨⟨Ql, h1.below hb, h2⟩, h.b0, h.hb.trans (hb.mono h.hb.size)⟩
/-- The lane that stands at a place behind s. -/
def pl (s n q : Nat) : Nat := (s + q) % n
theorem pl_lt (s n q : Nat) (h : 1 ≤ n) : pl s n q < n := Nat.mod_lt _ (by omega)
theorem pl_inj {s n q q' : Nat} (h : 1 ≤ n) (hq : q < n) (hq' : q' < n) (e : pl s n q = pl s n q') : q = q' := by
  unfold pl at e
  have h1 := Nat.div_add_mod (s + q) n
  have h2 := Nat.div_add_mod (s + q') n
  rw [e] at h1
  have h3 : n * ((s + q) / n) + q' = n * ((s + q') / n) + q := by omega
  rcases Nat.lt_trichotomy ((s + q) / n) ((s + q') / n) with hlt | heq | hgt
  · have : n * ((s + q) / n) + n ≤ n * ((s + q') / n) := by rw [← Nat.mul_succ]; exact Nat.mul_le_mul_left _ hlt
    omega
  · rw [heq] at h3; omega
  · have : n * ((s + q') / n) + n ≤ n * ((s + q) / n) := by rw [← Nat.mul_succ]; exact Nat.mul_le_mul_left _ hgt
    omega
theorem pl_all (s n : Nat) (h : 1 ≤ n) (hn : n ≤ 8) (hs : s < n) (i : Nat) (hi : i < n) : ∃ q, q < n ∧ pl s n q = i := by
  have h1 := (List.isPerm_iff.1 (rot_perm n hn s hs)).mem_iff (a := i)
  have h2 := h1.2 (List.mem_range.2 hi)
  obtain ⟨q, hq, e⟩ := List.mem_map.1 h2
  exact ⟨q, List.mem_range.1 hq, e⟩
/-- Next asks the lanes behind the cursor first. -/
theorem lnr_pl (f n s p j : Nat) (h : 1 ≤ n) (he : f % n = (s + p) % n) : lnr (f : Int) n j = pl s n (p + j) := by
  unfold lnr pl
  have h1 : ((f : Int).tmod n) = ((f % n : Nat) : Int) := by rw [Int.tmod_eq_emod_of_nonneg (by omega)]; simp
  rw [h1, he]
  have h2 : ((((s + p) % n : Nat) : Int) + n + j) % n = (((s + (p + j)) % n : Nat) : Int) := by
    have : ((((s + p) % n : Nat) : Int) + n + j) = ((((s + p) % n + n + j : Nat)) : Int) := by simp
    rw [this, ← Int.natCast_emod]
    congr 1
    rw [show (s + p) % n + n + j = (s + p) % n + j + n by omega, Nat.add_mod_right, Nat.mod_add_mod, Nat.add_assoc]
  rw [h2]; exact Int.toNat_natCast _
def rangeI (k : Nat) : List Int := (List.range k).map (fun (j : Nat) => (j : Int))
theorem rangeI_succ (k : Nat) : rangeI (k + 1) = rangeI k ++ [(k : Int)] := by unfold rangeI; rw [List.range_succ, List.map_append]; rfl
theorem rangeI_len (k : Nat) : (rangeI k).length = k := by simp [rangeI]
theorem rangeI_cons (k : Nat) (h : 0 < k) : rangeI k = 0 :: (rangeI k).drop 1 := by
  obtain ⟨m, rfl⟩ : ∃ m, k = m + 1 := ⟨k - 1, by omega⟩
  unfold rangeI
  rw [List.range_succ_eq_map]
  rfl
/-- The lanes while they are filled. -/
def Qf (xs : List Int) (i k : Nat) : Nat → List Int := fun j => if j < i then rangeI (cnt xs j) else if j = i then rangeI k else []
theorem Qf_at (xs : List Int) (i k : Nat) : Qf xs i k i = rangeI k := by unfold Qf; rw [if_neg (by omega), if_pos rfl]
theorem Qf_ne (xs : List Int) (i k k' j : Nat) (h : j ≠ i) : Qf xs i k j = Qf xs i k' j := by unfold Qf; rw [if_neg h, if_neg h]
theorem Qf_next (xs : List Int) (i : Nat) : Qf xs i (cnt xs i) = Qf xs (i + 1) 0 := by
  funext j
  unfold Qf
  by_cases h1 : j < i
  · rw [if_pos h1, if_pos (by omega)]
  · rw [if_neg h1]
    by_cases h2 : j = i
    · subst h2; rw [if_pos rfl, if_pos (by omega)]
    · rw [if_neg h2, if_neg (by omega)]
      split <;> rfl
theorem Qf_zero (xs : List Int) : Qf xs 0 0 = fun _ => [] := by
  funext j
  unfold Qf
  rw [if_neg (by omega)]
  split <;> rfl
theorem Qf_end (xs : List Int) (n i : Nat) (h : i = min n xs.length) (j : Nat) (hj : j < n) : Qf xs i 0 j = rangeI (cnt xs j) := by
  unfold Qf
  by_cases h1 : j < i
  · rw [if_pos h1]
  · rw [if_neg h1, cnt_no (by omega)]
    split <;> rfl
theorem LT.turn {w0 wr w' : World} {g ga c0 n : Nat} {Q Q' : Nat → List Int} {Ql : List (List Value)} {m : Nat} (h : LT w0 wr g ga c0 n Q) (hQ : LN 113 111 3 wr g ga c0 n 8 Ql) (hq : ∀ j, j < n → Ql[j]? = some ((Q j).map (Value.int .i64))) (hm : m < n) (hne : ∀ j, j < n → j ≠ m → Q' j = Q j) (hl : LN 113 111 3 w' g ga c0 n 8 (Ql.set m ((Q' m).map (Value.int .i64)))) (hmd : Mods (CS c0 n) wr w') : LT w0 w' g ga c0 n Q' :=
  ⟨⟨_, hl, setQ hQ.hl hq m hm hne⟩, h.b0, Mods.cs h.hb hmd h.hb.size h.b0⟩
theorem hm_not {p : Nat → Bool} {n q k : Nat} (h : hm p n = hm p k) (hq : q < n) (hk : k ≤ q) : p q = false := by
  cases hp : p q with
  | false => rfl
  | true =>
    have h1 := hm_mono p hk
    have h2 : hm p (q + 1) = hm p q + 1 := by show hm p q + _ = _; rw [hp]; rfl
    have h3 := hm_mono p (show q + 1 ≤ n by omega)
    omega
theorem hm_some {p : Nat → Bool} {n k : Nat} (hk : k ≤ n) (h : hm p k < hm p n) : ∃ q, k ≤ q ∧ q < n ∧ p q = true := by
  by_cases he : ∃ q, k ≤ q ∧ q < n ∧ p q = true
  · exact he
  · have := hm_eq p hk (fun q h1 h2 => by
      cases hp : p q with
      | false => rfl
      | true => exact absurd ⟨q, h1, h2, hp⟩ he)
    omega
/-- The lanes while Next goes round them: the places before p are asked. -/
structure Turn (w0 wr : World) (g ga c0 n gh : Nat) (xs : List Int) (s p : Nat) : Prop where
  lt : ∃ Q, LT w0 wr g ga c0 n Q ∧ ∀ q, q < n → Q (pl s n q) = if q < p then (rangeI (cnt xs (pl s n q))).drop 1 else rangeI (cnt xs (pl s n q))
  hh : ∃ H : Array Value, wr.heap[gh]? = some (.cells H 90 (0, 0)) ∧ H.size = 8 ∧ ∀ q, q < n → H[pl s n q]? = some (.int .i64 (if q < p ∧ 0 < cnt xs (pl s n q) then 1 else 0))
  gb : w0.heap.size ≤ gh
theorem LT.start {w0 wr : World} {g ga c0 n : Nat} {Q : Nat → List Int} {xs : List Int} (h : LT w0 wr g ga c0 n Q) (hQ : ∀ j, j < n → Q j = rangeI (cnt xs j)) (hn1 : 1 ≤ n) (hn8 : n ≤ 8) (s : Nat) :
    Turn w0 (wr.alloc (.cells #[.int .i64 0, .int .i64 0, .int .i64 0, .int .i64 0, .int .i64 0, .int .i64 0, .int .i64 0, .int .i64 0] 90)) g ga c0 n wr.heap.size xs s 0 := by
  refine ⟨⟨Q, h.below (alloc_below _ _), fun q hq => ?_⟩, ⟨_, heap_alloc_new _ _, rfl, fun q hq => ?_⟩, h.hb.size⟩
  · rw [if_neg (by omega)]; exact hQ _ (pl_lt _ _ _ hn1)
  · rw [if_neg (by omega)]
    have hp := pl_lt s n q hn1
    generalize pl s n q = k at hp
    have hk : k < 8 := by omega
    match k, hk with
    | 0, _ => rfl
    | 1, _ => rfl
    | 2, _ => rfl
    | 3, _ => rfl
    | 4, _ => rfl
    | 5, _ => rfl
    | 6, _ => rfl
    | 7, _ => rfl
theorem Turn.step {w0 wr : World} {g ga c0 n gh : Nat} {xs : List Int} {s p : Nat} (h : Turn w0 wr g ga c0 n gh xs s p) (hn1 : 1 ≤ n) (hn8 : n ≤ 8) (hp : p ≤ n) (hlt : hm (fun q => decide (0 < cnt xs (pl s n q))) p < hm (fun q => decide (0 < cnt xs (pl s n q))) n) {f : Nat} (hf : f % n = (s + p) % n) (hf8 : f ≤ 8) :
    Calls Try.prog 55 #[.pointer (some ⟨g, 0, none⟩), .int .i64 f] wr fun e w' => ∃ p' l : Nat, p < p' ∧ p' ≤ n ∧ l < n ∧ hm (fun q => decide (0 < cnt xs (pl s n q))) p' = hm (fun q => decide (0 < cnt xs (pl s n q))) p + 1 ∧ (l + 1) % n = (s + p') % n ∧ e = .returned (.tuple #[.int .i64 l, .int .i64 0, .bool true]) ∧ w'.cell? ⟨gh, l, none⟩ = some (.int .i64 0) ∧ w'.frozen? ⟨gh, l, none⟩ = false ∧ Turn w0 (w'.setCell ⟨gh, l, none⟩ (.int .i64 1)) g ga c0 n gh xs s p' := by
  obtain ⟨Q, hL, hQd⟩ := h.lt
  obtain ⟨Ql, hQ, hq⟩ := hL.ln
  obtain ⟨H, hh, hsz, hH⟩ := h.hh
  obtain ⟨q0, hq1, hq2, hq3⟩ := hm_some hp hlt
  have hq3' : 0 < cnt xs (pl s n q0) := by simpa using hq3
  refine (nextL hQ hn1 (fun l hl y hy => ?_) f (by omega) (by omega)).mono ?_
  · obtain ⟨i, hi⟩ := List.getElem?_of_mem hl
    have hin : i < n := by have := (List.getElem?_eq_some_iff.1 hi).1; have := hQ.hl; omega
    rw [hq i hin] at hi
    injection hi with hi
    rw [← hi] at hy
    obtain ⟨x, _, rfl⟩ := List.mem_map.1 hy
    exact ⟨x, rfl⟩
  rintro e w' hN
  have hpl : ∀ j, lnr (f : Int) n j = pl s n (p + j) := fun j => lnr_pl f n s p j hn1 hf
  have hat : ∀ j, p + j < n → Ql[lnr (f : Int) n j]? = some ((rangeI (cnt xs (pl s n (p + j)))).map (Value.int .i64)) := fun j hj => by
    rw [hpl, hq _ (pl_lt _ _ _ hn1), hQd _ hj, if_neg (by omega)]
  have hno : ∀ j, p + j < n → Ql[lnr (f : Int) n j]? = some [] → cnt xs (pl s n (p + j)) = 0 := fun j hj he => by
    rw [hat j hj] at he
    injection he with he
    have := congrArg List.length he
    simpa [rangeI_len] using this
  have h0 : p + (q0 - p) = q0 := by omega
  rcases hN with ⟨j, x, l, hj, hbef, hQj, rfl, hln, hmd⟩ | ⟨hall, _⟩
  · have hjq : j ≤ q0 - p := by
      by_cases hjq : j ≤ q0 - p
      · exact hjq
      · have h1 := hno (q0 - p) (by omega) (hbef (q0 - p) (by omega))
        rw [h0] at h1
        omega
    have hpj : p + j < n := by omega
    have hQj2 := hat j hpj
    rw [hQj] at hQj2
    have hcp : 0 < cnt xs (pl s n (p + j)) := by
      rcases Nat.eq_zero_or_pos (cnt xs (pl s n (p + j))) with h0 | h0
      · rw [h0] at hQj2; simp [rangeI] at hQj2
      · exact h0
    rw [rangeI_cons _ hcp] at hQj2
    simp only [List.map_cons, Option.some.injEq, List.cons.injEq] at hQj2
    obtain ⟨rfl, rfl⟩ := hQj2
    have hz : ∀ q, p ≤ q → q < p + j → cnt xs (pl s n q) = 0 := fun q h1 h2 => by
      have := hno (q - p) (by omega) (hbef (q - p) (by omega))
      rwa [show p + (q - p) = q by omega] at this
    have hm1 : hm (fun q => decide (0 < cnt xs (pl s n q))) (p + j) = hm (fun q => decide (0 < cnt xs (pl s n q))) p := hm_eq _ (by omega) (fun k h1 h2 => by simp [hz k h1 h2])
    have hm2 : hm (fun q => decide (0 < cnt xs (pl s n q))) (p + j + 1) = hm (fun q => decide (0 < cnt xs (pl s n q))) p + 1 := by
      show hm _ (p + j) + (if decide (0 < cnt xs (pl s n (p + j))) = true then 1 else 0) = _
      rw [hm1]; simp [hcp]
    rw [hpl] at hln ⊢
    have hgh : w'.heap[gh]? = some (.cells H 90 (0, 0)) := (hmd.block gh (Array.getElem?_eq_some_iff.1 hh).1 (not_cs hQ hh)).trans hh
    have hl8 : pl s n (p + j) < n := pl_lt _ _ _ hn1
    have hset : Mods (fun k => k = gh) w' (w'.setCell ⟨gh, pl s n (p + j), none⟩ (.int .i64 1)) := Mods.set _ ⟨gh, pl s n (p + j), none⟩ _ rfl
    have hinj : ∀ q, q < n → q ≠ p + j → pl s n q ≠ pl s n (p + j) := fun q h1 h2 e => h2 (pl_inj hn1 h1 hpj e)
    have hLT : LT w0 w' g ga c0 n (fun k => if k = pl s n (p + j) then (rangeI (cnt xs (pl s n (p + j)))).drop 1 else Q k) := hL.turn hQ hq hl8 (fun k _ hk => if_neg hk) (by rw [if_pos rfl]; exact hln) hmd
    obtain ⟨Ql2, hQ2, hq2'⟩ := hLT.ln
    refine ⟨p + j + 1, pl s n (p + j), by omega, by omega, hl8, hm2, ?_, rfl, ?_, ?_, ⟨⟨_, ⟨⟨Ql2, LN.far hQ2 hgh (by decide) (by decide) (by decide) (fun k hk hne => hset.block k hk hne), hq2'⟩, hLT.b0, Mods.below hLT.hb hset hLT.hb.size (fun k hk => by rw [hk]; exact h.gb)⟩, fun q hq => ?_⟩, ⟨H.setIfInBounds (pl s n (p + j)) (.int .i64 1), ?_, by simpa using hsz, fun q hq => ?_⟩, h.gb⟩⟩
    · show ((s + (p + j)) % n + 1) % n = _
      rw [Nat.mod_add_mod]; rfl
    · rw [cell_of_row _ _ _ _ _ _ hgh, hH _ hpj, if_neg (by omega)]
    · simp [World.frozen?, hgh]
    · show (if pl s n q = pl s n (p + j) then _ else _) = _
      by_cases hqj : q = p + j
      · subst hqj; rw [if_pos rfl, if_pos (by omega)]
      · rw [if_neg (hinj q hq hqj), hQd q hq]
        by_cases h1 : q < p
        · rw [if_pos h1, if_pos (by omega)]
        · rw [if_neg h1]
          by_cases h2 : q < p + j
          · rw [hz q (by omega) h2, if_pos (by omega)]; rfl
          · rw [if_neg (by omega)]
    · simp [World.setCell, Array.getElem?_modify, hgh]
    · by_cases hqj : q = p + j
      · subst hqj; rw [Array.getElem?_setIfInBounds_self_of_lt (by omega), if_pos ⟨by omega, hcp⟩]
      · rw [Array.getElem?_setIfInBounds_ne (fun e => hinj q hq hqj e.symm), hH q hq]
        congr 2
        by_cases h1 : q < p
        · have e1 : q < p + j + 1 := by omega
          simp [h1, e1]
        · rw [if_neg (fun e => h1 e.1)]
          by_cases h2 : q < p + j
          · rw [if_neg (fun e => by have := hz q (by omega) h2; omega)]
          · rw [if_neg (fun e => by omega)]
  · have h1 := hno (q0 - p) (by omega) (hall (q0 - p) (by omega))
    rw [h0] at h1
    omega
theorem Turn.done {w0 wr : World} {g ga c0 n gh : Nat} {xs : List Int} {s p : Nat} (h : Turn w0 wr g ga c0 n gh xs s p) (hn1 : 1 ≤ n) (hn8 : n ≤ 8) (hs : s < n) (he : hm (fun q => decide (0 < cnt xs (pl s n q))) n = hm (fun q => decide (0 < cnt xs (pl s n q))) p) :
    ∃ H : Array Value, wr.heap[gh]? = some (.cells H 90 (0, 0)) ∧ ∀ i, i < n → H[i]? = some (.int .i64 (if 0 < cnt xs i then 1 else 0)) := by
  obtain ⟨H, h1, _, h3⟩ := h.hh
  refine ⟨H, h1, fun i hi => ?_⟩
  obtain ⟨q, hq, rfl⟩ := pl_all s n hn1 hn8 hs i hi
  rw [h3 q hq]
  congr 2
  by_cases hqp : q < p
  · simp [hqp]
  · have := hm_not he hq (by omega)
    have h0 : ¬ 0 < cnt xs (pl s n q) := by simpa using this
    rw [if_neg (fun e => hqp e.1), if_neg h0]

set_option maxRecDepth 100000 in
set_option maxHeartbeats 8000000 in
theorem walk (n : Nat) (hn1 : 1 ≤ n) (hn8 : n ≤ 8) (bv : Value) (xs : List Int) (z : Int) (z0 : -9223372036854775808 ≤ z) (z1 : z ≤ 9223372036854775807) (w : World) (h : SB w bv xs) :
    Calls Try.prog 11 #[.int .i64 n, bv, .int .i64 z] w fun e w' => e = .returned (.bool true) ∧ Below w.heap.size w w' := by
  obtain ⟨x, c, rfl, hx1, hx2, hx3⟩ := h
  unfold maxLen at hx2
  have X := Lib.hid hx3
  clear hx3
  obtain ⟨s0, hs0, hs07⟩ := and_le z 7 (by omega)
  change bits .and .i64 z 7 = _ at hs0
  go_enter Try.func11, Try.ntmps11
  go_wp2_with fail
  refine (newL n 8 hn1 hn8 (by omega) (by omega) w).mono ?_
  rintro e w1 ⟨g, ga, c0, rfl, hln, hc0, hg, hb1⟩
  have S0 : Hid (LT w w1 g ga c0 n (Qf xs 0 0)) := by
    show LT _ _ _ _ _ _ _
    rw [Qf_zero]
    exact ⟨⟨_, hln, fun j hj => by rw [List.getElem?_replicate, if_pos hj]; rfl⟩, hc0, hb1⟩
  clear hln hc0 hg hb1
  go_wp2_with fail
  go_loopg [9, 10] (min n xs.length) (fun r vw vi wr => ∃ i u : Nat, r + i = min n xs.length ∧ vi = .int .i64 i ∧ vw = .int .i64 u ∧ u = hm (fun j => decide (0 < cnt xs j)) i ∧ LT w wr g ga c0 n (Qf xs i 0))
  case atStart => exact ⟨0, 0, by omega, rfl, rfl, rfl, S0.out⟩
  case round =>
    clear S0
    obtain ⟨i, u, hr, rfl, rfl, hu, hs⟩ := hrel
    have S := Lib.hid hs
    have hui : u ≤ i := by rw [hu]; exact hm_le _ _
    have HU := Lib.hid hu
    clear hs hu
    by_cases hlt : i < n ∧ i < xs.length
    · obtain ⟨hi1, hi2⟩ := hlt
      have hxi : xs[i]? = some (xs[i]'hi2) := List.getElem?_eq_getElem hi2
      generalize xs[i]'hi2 = y at hxi
      obtain ⟨y0, y1, b, o, rfl, hb1, hb2⟩ := X.out i y hxi
      have hc1 : wr.cell? ⟨b, o + i, none⟩ = some (.int .u8 y) := (S.out.hb.cell (p := ⟨b, o + i, none⟩) hb1).trans hb2
      have hand := and7 y y0 y1
      rw [← cnt_at hxi] at hand
      have hm7 := cnt_le xs i
      obtain ⟨m, hme⟩ : ∃ m, m = cnt xs i := ⟨_, rfl⟩
      rw [← hme] at hand hm7
      have HME := Lib.hid hme
      clear hb2 hxi hme
      go_wp2_with fail
      go_loopg [12] m (fun r vc wr => ∃ k : Nat, r + k = m ∧ vc = .int .i64 k ∧ LT w wr g ga c0 n (Qf xs i k))
      case atStart => exact ⟨0, by omega, rfl, S.out⟩
      case round =>
        clear S hand hc1
        obtain ⟨k, hr2, rfl, hs⟩ := hrel
        by_cases hkm : k < m
        · obtain ⟨Ql, hQ, hq⟩ := hs.ln
          have hqi := hq i hi1
          rw [Qf_at] at hqi
          have S := Lib.hid hs
          have HQ := Lib.hid hQ
          clear hs hQ
          go_wp2_with fail
          refine (putL HQ.out i _ hqi (by simp [rangeI_len]; omega) (k : Nat)).mono ?_
          rintro e w2 ⟨rfl, hln, hmd⟩
          have S2 : Hid (LT w w2 g ga c0 n (Qf xs i (k + 1))) := S.out.turn HQ.out hq hi1 (fun j _ hj => Qf_ne _ _ _ _ _ hj) (by rw [Qf_at, rangeI_succ, List.map_append]; exact hln) hmd
          clear hln hmd hqi hq S HQ
          go_wp2_with fail
          go_roundg (m - (k + 1))
          case measure => omega
          case rel => exact ⟨k + 1, by omega, by go_num, S2.out⟩
        · obtain rfl : k = m := by omega
          have S2 : Hid (LT w wr g ga c0 n (Qf xs (i + 1) 0)) := by show LT _ _ _ _ _ _ _; rw [← Qf_next, ← HME.out]; exact hs
          clear hs hkm
          by_cases hm0 : 0 < k
          · go_wp2_with fail
            go_roundg (min n xs.length - (i + 1))
            case measure => omega
            case rel => exact ⟨i + 1, u + 1, by omega, by go_num, by go_num, by rw [HU.out]; show _ = hm _ i + (if decide (0 < cnt xs i) = true then 1 else 0); rw [← HME.out]; simp [hm0], S2.out⟩
          · go_wp2_with fail
            go_roundg (min n xs.length - (i + 1))
            case measure => omega
            case rel => exact ⟨i + 1, u, by omega, by go_num, rfl, by rw [HU.out]; show _ = hm _ i + (if decide (0 < cnt xs i) = true then 1 else 0); rw [← HME.out]; simp [hm0], S2.out⟩
    · have hin : i = min n xs.length := by omega
      have hun : u = hm (fun j => decide (0 < cnt xs j)) n := by
        rw [HU.out]; exact (hm_eq _ (by omega) (fun k h1 h2 => by simp [cnt_no (show xs.length ≤ k by omega)])).symm
      obtain ⟨s, hs⟩ : ∃ s, s = s0 % n := ⟨_, rfl⟩
      have hsn : s < n := hs ▸ Nat.mod_lt _ hn1
      have hrot : u = hm (fun q => decide (0 < cnt xs (pl s n q))) n := hun.trans (hm_rot (fun j => decide (0 < cnt xs j)) n s hn8 hsn).symm
      obtain ⟨gh, hgh⟩ : ∃ gh, gh = wr.heap.size := ⟨_, rfl⟩
      obtain ⟨w2, hw2⟩ : ∃ w2, w2 = wr.alloc (.cells #[.int .i64 0, .int .i64 0, .int .i64 0, .int .i64 0, .int .i64 0, .int .i64 0, .int .i64 0, .int .i64 0] 90) := ⟨_, rfl⟩
      have T0 : Hid (Turn w w2 g ga c0 n gh xs s 0) := by
        show Turn _ _ _ _ _ _ _ _ _ _
        rw [hw2, hgh]
        exact S.out.start (fun j hj => Qf_end xs n i hin j hj) hn1 hn8 s
      have HW2 := Lib.hid hw2
      have HGH := Lib.hid hgh
      have HS := Lib.hid hs
      have HR := Lib.hid hrot
      have hu8 : u ≤ 8 := by omega
      have hlt2 : ¬ ((i : Int) < n ∧ (i : Int) < xs.length) := by omega
      have hcase : n ≤ i ∨ (i < n ∧ xs.length ≤ i) := by omega
      clear S HU hin hun hw2 hgh hs hrot
      rcases hcase with hcase | ⟨hcase1, hcase2⟩
      · clear hlt hlt2 hr
        go_wp2_with fail
        rw [← HW2.out, ← HGH.out]
        go_loopg [14, 15] u (fun r vf vi wr => ∃ i p f : Nat, r + i = u ∧ vi = .int .i64 i ∧ vf = .int .i64 f ∧ i = hm (fun q => decide (0 < cnt xs (pl s n q))) p ∧ p ≤ n ∧ f ≤ 8 ∧ f % n = (s + p) % n ∧ Turn w wr g ga c0 n gh xs s p)
        case atStart => exact ⟨0, 0, s0, by omega, rfl, rfl, rfl, by omega, by omega, by rw [HS.out]; simp, T0.out⟩
        case round =>
          clear T0 HW2 HGH
          obtain ⟨i, p, f, hr3, rfl, rfl, hi, hp, hf8, hf, ht⟩ := hrel
          have T := Lib.hid ht
          have HI := Lib.hid hi
          have HF := Lib.hid hf
          clear ht hi hf
          by_cases hlt : i < u
          · go_wp2_with fail
            refine (T.out.step hn1 hn8 hp (by rw [← HI.out, ← HR.out]; exact hlt) HF.out hf8).mono ?_
            rintro e w3 ⟨p', l, hp1, hp2, hl, hm2, hfl, rfl, hc1, hc2, hT⟩
            have T3 := Lib.hid hT
            have HM2 := Lib.hid hm2
            have HFL := Lib.hid hfl
            clear hT hm2 hfl T HF hp hp1
            go_wp2_with fail
            go_roundg (u - (i + 1))
            case measure => omega
            case rel => exact ⟨i + 1, p', l + 1, by omega, by go_num, by go_num, by rw [HM2.out, HI.out], hp2, by omega, HFL.out, T3.out⟩
          · have hiu : i = u := by omega
            obtain ⟨H, hH1, hH2⟩ := T.out.done hn1 hn8 hsn (by rw [← HI.out, ← HR.out, hiu])
            obtain ⟨_, hLT, _⟩ := T.out.lt
            have HB := Lib.hid hLT.hb
            have HH1 := Lib.hid hH1
            have HH2 := Lib.hid hH2
            clear T HI HF hLT hH1 hH2 hiu
            go_wp2_with fail
            go_loopg [19] (min n xs.length) (fun r vi wr => ∃ i : Nat, r + i = min n xs.length ∧ vi = .int .i64 i ∧ wr.heap[gh]? = some (.cells H 90 (0, 0)) ∧ Below w.heap.size w wr)
            case atStart => exact ⟨0, by omega, rfl, HH1.out, HB.out⟩
            case round =>
              clear HB HH1 hp hf8 hlt hr3
              obtain ⟨k, hr4, rfl, hh, hb⟩ := hrel
              by_cases hlt : k < n ∧ k < xs.length
              · obtain ⟨hi1, hi2⟩ := hlt
                have hxi : xs[k]? = some (xs[k]'hi2) := List.getElem?_eq_getElem hi2
                generalize xs[k]'hi2 = y at hxi
                obtain ⟨y0, y1, b, o, rfl, hb1, hb2⟩ := X.out k y hxi
                have hc1 : wr.cell? ⟨b, o + k, none⟩ = some (.int .u8 y) := (hb.cell (p := ⟨b, o + k, none⟩) hb1).trans hb2
                have hc2 : wr.cell? ⟨gh, k, none⟩ = some (.int .i64 (if 0 < cnt xs k then 1 else 0)) := by rw [cell_of_row _ _ _ _ _ _ hh]; exact HH2.out k hi1
                have hand := and7 y y0 y1
                rw [← cnt_at hxi] at hand
                have hm7 := cnt_le xs k
                generalize cnt xs k = m at hand hm7 hc2
                have HHW := Lib.hid hh
                have HBW := Lib.hid hb
                clear hb2 hxi hh hb
                by_cases hm0 : 0 < m
                · rw [if_pos hm0] at hc2
                  have hd : decide (0 < m) = true := by simpa using hm0
                  clear hm0
                  go_wp2_with fail
                  go_quiet (fail)
                  go_wp2_with fail
                  go_roundg (min n xs.length - (k + 1))
                  case measure => omega
                  case rel => exact ⟨k + 1, by omega, by go_num, HHW.out, HBW.out.trans ⟨rfl, rfl, rfl, Nat.le_refl _, fun _ _ => rfl⟩⟩
                · obtain rfl : m = 0 := by omega
                  rw [if_neg hm0] at hc2
                  clear hm0
                  go_wp2_with fail
                  go_quiet (fail)
                  go_wp2_with fail
                  go_roundg (min n xs.length - (k + 1))
                  case measure => omega
                  case rel => exact ⟨k + 1, by omega, by go_num, HHW.out, HBW.out.trans ⟨rfl, rfl, rfl, Nat.le_refl _, fun _ _ => rfl⟩⟩
              · have HB7 := Lib.hid hb
                have hcase : n ≤ k ∨ (k < n ∧ xs.length ≤ k) := by omega
                clear hh hb hlt hr4
                rcases hcase with hcase | ⟨hcase1, hcase2⟩
                · go_wp2_with (go_at_call 46; refine (alive10 _).mono ?_; rintro e w8 ⟨rfl, hb⟩; have HB := Lib.hid (HB7.out.trans (hb.mono HB7.out.size)); clear hb)
                  go_ret
                  exact ⟨rfl, HB.out⟩
                · go_wp2_with (go_at_call 46; refine (alive10 _).mono ?_; rintro e w8 ⟨rfl, hb⟩; have HB := Lib.hid (HB7.out.trans (hb.mono HB7.out.size)); clear hb)
                  go_ret
                  exact ⟨rfl, HB.out⟩
      · have hd0 : decide (i < xs.length) = false := by simp; omega
        clear hlt hlt2 hr
        go_wp2_with fail
        rw [← HW2.out, ← HGH.out]
        go_loopg [14, 15] u (fun r vf vi wr => ∃ i p f : Nat, r + i = u ∧ vi = .int .i64 i ∧ vf = .int .i64 f ∧ i = hm (fun q => decide (0 < cnt xs (pl s n q))) p ∧ p ≤ n ∧ f ≤ 8 ∧ f % n = (s + p) % n ∧ Turn w wr g ga c0 n gh xs s p)
        case atStart => exact ⟨0, 0, s0, by omega, rfl, rfl, rfl, by omega, by omega, by rw [HS.out]; simp, T0.out⟩
        case round =>
          clear T0 HW2 HGH
          obtain ⟨i, p, f, hr3, rfl, rfl, hi, hp, hf8, hf, ht⟩ := hrel
          have T := Lib.hid ht
          have HI := Lib.hid hi
          have HF := Lib.hid hf
          clear ht hi hf
          by_cases hlt : i < u
          · go_wp2_with fail
            refine (T.out.step hn1 hn8 hp (by rw [← HI.out, ← HR.out]; exact hlt) HF.out hf8).mono ?_
            rintro e w3 ⟨p', l, hp1, hp2, hl, hm2, hfl, rfl, hc1, hc2, hT⟩
            have T3 := Lib.hid hT
            have HM2 := Lib.hid hm2
            have HFL := Lib.hid hfl
            clear hT hm2 hfl T HF hp hp1
            go_wp2_with fail
            go_roundg (u - (i + 1))
            case measure => omega
            case rel => exact ⟨i + 1, p', l + 1, by omega, by go_num, by go_num, by rw [HM2.out, HI.out], hp2, by omega, HFL.out, T3.out⟩
          · have hiu : i = u := by omega
            obtain ⟨H, hH1, hH2⟩ := T.out.done hn1 hn8 hsn (by rw [← HI.out, ← HR.out, hiu])
            obtain ⟨_, hLT, _⟩ := T.out.lt
            have HB := Lib.hid hLT.hb
            have HH1 := Lib.hid hH1
            have HH2 := Lib.hid hH2
            clear T HI HF hLT hH1 hH2 hiu
            go_wp2_with fail
            go_loopg [19] (min n xs.length) (fun r vi wr => ∃ i : Nat, r + i = min n xs.length ∧ vi = .int .i64 i ∧ wr.heap[gh]? = some (.cells H 90 (0, 0)) ∧ Below w.heap.size w wr)
            case atStart => exact ⟨0, by omega, rfl, HH1.out, HB.out⟩
            case round =>
              clear HB HH1 hp hf8 hlt hr3
              obtain ⟨k, hr4, rfl, hh, hb⟩ := hrel
              by_cases hlt : k < n ∧ k < xs.length
              · obtain ⟨hi1, hi2⟩ := hlt
                have hxi : xs[k]? = some (xs[k]'hi2) := List.getElem?_eq_getElem hi2
                generalize xs[k]'hi2 = y at hxi
                obtain ⟨y0, y1, b, o, rfl, hb1, hb2⟩ := X.out k y hxi
                have hc1 : wr.cell? ⟨b, o + k, none⟩ = some (.int .u8 y) := (hb.cell (p := ⟨b, o + k, none⟩) hb1).trans hb2
                have hc2 : wr.cell? ⟨gh, k, none⟩ = some (.int .i64 (if 0 < cnt xs k then 1 else 0)) := by rw [cell_of_row _ _ _ _ _ _ hh]; exact HH2.out k hi1
                have hand := and7 y y0 y1
                rw [← cnt_at hxi] at hand
                have hm7 := cnt_le xs k
                generalize cnt xs k = m at hand hm7 hc2
                have HHW := Lib.hid hh
                have HBW := Lib.hid hb
                clear hb2 hxi hh hb
                by_cases hm0 : 0 < m
                · rw [if_pos hm0] at hc2
                  have hd : decide (0 < m) = true := by simpa using hm0
                  clear hm0
                  go_wp2_with fail
                  go_quiet (fail)
                  go_wp2_with fail
                  go_roundg (min n xs.length - (k + 1))
                  case measure => omega
                  case rel => exact ⟨k + 1, by omega, by go_num, HHW.out, HBW.out.trans ⟨rfl, rfl, rfl, Nat.le_refl _, fun _ _ => rfl⟩⟩
                · obtain rfl : m = 0 := by omega
                  rw [if_neg hm0] at hc2
                  clear hm0
                  go_wp2_with fail
                  go_quiet (fail)
                  go_wp2_with fail
                  go_roundg (min n xs.length - (k + 1))
                  case measure => omega
                  case rel => exact ⟨k + 1, by omega, by go_num, HHW.out, HBW.out.trans ⟨rfl, rfl, rfl, Nat.le_refl _, fun _ _ => rfl⟩⟩
              · have HB7 := Lib.hid hb
                have hcase : n ≤ k ∨ (k < n ∧ xs.length ≤ k) := by omega
                clear hh hb hlt hr4
                rcases hcase with hcase | ⟨hcase1, hcase2⟩
                · go_wp2_with (go_at_call 46; refine (alive10 _).mono ?_; rintro e w8 ⟨rfl, hb⟩; have HB := Lib.hid (HB7.out.trans (hb.mono HB7.out.size)); clear hb)
                  go_ret
                  exact ⟨rfl, HB.out⟩
                · go_wp2_with (go_at_call 46; refine (alive10 _).mono ?_; rintro e w8 ⟨rfl, hb⟩; have HB := Lib.hid (HB7.out.trans (hb.mono HB7.out.size)); clear hb)
                  go_ret
                  exact ⟨rfl, HB.out⟩
set_option maxRecDepth 100000 in
theorem walk_no (n : Int) (hn : n < 1 ∨ 8 < n) (bv : Value) (z : Int) (w : World) :
    Calls Try.prog 11 #[.int .i64 n, bv, .int .i64 z] w fun e w' => e = .returned (.bool true) ∧ Below w.heap.size w w' := by
  by_cases h1 : n < 1
  · clear hn
    go_enter Try.func11, Try.ntmps11
    go_wp2_with fail
    refine (newL_no n 8 (by omega) w).mono ?_
    rintro e w1 ⟨rfl, rfl⟩
    go_wp2_with (go_at_call 46; refine (alive10 _).mono ?_; rintro e w8 ⟨rfl, hb⟩; have HB := Lib.hid hb; clear hb)
    go_ret
    exact ⟨rfl, HB.out⟩
  · have h8 : 8 < n := by omega
    clear hn
    go_enter Try.func11, Try.ntmps11
    go_wp2_with fail
    refine (newL_no n 8 (by omega) w).mono ?_
    rintro e w1 ⟨rfl, rfl⟩
    go_wp2_with (go_at_call 46; refine (alive10 _).mono ?_; rintro e w8 ⟨rfl, hb⟩; have HB := Lib.hid hb; clear hb)
    go_ret
    exact ⟨rfl, HB.out⟩
theorem walk_all (a : Int) (bv : Value) (xs : List Int) (z : Int) (z0 : -9223372036854775808 ≤ z) (z1 : z ≤ 9223372036854775807) (w : World) (h : SB w bv xs) :
    Calls Try.prog 11 #[.int .i64 a, bv, .int .i64 z] w fun e w' => e = .returned (.bool true) ∧ Below w.heap.size w w' := by
  by_cases ha : a < 1 ∨ 8 < a
  · exact walk_no a ha bv z w
  · obtain ⟨n, rfl⟩ : ∃ n : Nat, a = n := ⟨a.toNat, by omega⟩
    exact walk n (by omega) (by omega) bv xs z z0 z1 w h

set_option maxRecDepth 100000 in
theorem lifted (os : Os) (started : os.Started) (H : Type) (enc : TypeId × Value → H) :
    ReturnsInHanded {} Try.checked os 11 .any (Rows.laneTurnsSpec.pre6 enc Try.prog Try.f11 Rows.laneTurnsRow.domain false) (Rows.laneTurnsSpec.post enc Try.prog Try.f11 false true false false) := by
  refine returnsInHanded_of_change (C := Try.checked) own started (by kernel_rfl) Try.func11
    (ChangeSpec.witness6 (enc := enc) (C := Try.checked) false ⟨#[], #[.int .i64 0, .slice none 0 0, .int .i64 0], []⟩ 8 (by kernel_rfl) (by kernel_rfl) (by kernel_rfl) (by kernel_rfl)) ?_
  intro W base args ds gs before hval0 hW hcnd _
  have hval : ∀ (j : Nat) t v, Try.f11.params[j]? = some t → args[j]? = some v → Value.okWide Try.prog W .any base t v := hval0
  have hW' := hW
  obtain ⟨p, q, hA0, hV, rfl, hfz, hnd⟩ := hW
  have hA : DataW.TrodAll enc Try.prog W 0 (fun _ => true) true Try.f11.params.toList args.toList ds p := hA0
  rw [Try.params11] at hA hval
  obtain ⟨v0, vs0, d0, ds0, p0, q0, hargs, rfl, rfl, h0, r0⟩ := trodAll_cons hA
  obtain ⟨v1, vs1, d1, ds1, p1, q1, rfl, rfl, rfl, h1, r1⟩ := trodAll_cons r0
  obtain ⟨v2, vs2, d2, ds2, p2, q2, rfl, rfl, rfl, h2, r2⟩ := trodAll_cons r1
  obtain ⟨rfl, rfl, rfl⟩ := trodAll_nil r2
  obtain rfl : args = #[v0, v1, v2] := by cases args; simp_all
  obtain ⟨rfl, rfl⟩ := trodVars_none hV
  obtain ⟨a0, rfl, rfl, rfl, w0⟩ := open_int Try.underlying3 (hval 0 3 v0 rfl rfl) h0
  have b0 := bounds_i64 w0
  obtain ⟨x1, s1⟩ := open_sb (hval 1 49 v1 rfl rfl) h1
  obtain ⟨a2, rfl, rfl, rfl, w2⟩ := open_int Try.underlying3 (hval 2 3 v2 rfl rfl) h2
  have b2 := bounds_i64 w2
  refine (walk_all a0 v1 x1 a2 b2.1 b2.2 W s1).mono fun e W' ⟨he, hb⟩ => ?_
  subst he
  exact ⟨_, rfl, law_post hW' rfl rfl rfl (by kernel_rfl) hb⟩

/-- The statement. -/
theorem proved : Rows.LaneTurnsSaid :=
  OpenClaim.holds_of_wide 11 Try.f11 rfl rfl rfl rfl rfl rfl rfl ⟨rfl, rfl, rfl, rfl, rfl⟩ rfl rfl rfl rfl rfl (by kernel_rfl) Try.func11 (by kernel_rfl)
    (of_decide_eq_true (by kernel_rfl)) (by unfold Func.isWrapper; first | (rw [if_pos (by decide +kernel)]; kernel_rfl) | (rw [if_neg (by decide +kernel)]; exact ⟨rfl, rfl⟩))
    (fun os started H enc _ => lifted os started H enc)
#print axioms proved
end Go.Proofs.Ytfdihgahegfamaa.laneTurns
