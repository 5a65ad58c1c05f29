/-
  The document's nodes and the program's, as lists: which may be, their bytes, what bytes tell, which are equal. Condition: the parts are bytes, the numbers are in their ranges.
-/
import Derived.Test.YtnifaldgofmciaaNfG
import Derived.Test.YtnifaldgofmciaaNdW
namespace Go.Proofs.Ytnifaldgofmciaa
open Go.RowKit
open oc (Byt Sees Own be nth numI numI_snoc)
theorem rdN_ok {xs : List Int} (h : Byt xs) : (rdN xs).okP := by
  have hb : Byt (begR xs).1 := nxt_byt (nxt_byt (nxt_byt (p := (xs, false)) h 1) 1) 6
  refine ⟨fun k hk => ?_, fun z hz => ?_, fun p hp => ?_⟩
  · obtain ⟨j, _, rfl⟩ := List.mem_map.1 (show k ∈ (List.range (cntR xs).toNat).map (keyA (lfR xs) (begR xs)) from hk)
    exact key_bound hb j
  · have hz' : z ∈ (if lfR xs = true then (List.range (cntR xs).toNat).map (valA (begR xs)) else []) := hz
    split at hz'
    · obtain ⟨j, _, rfl⟩ := List.mem_map.1 hz'
      exact val_ok hb j
    · cases hz'
  · have hp' : p ∈ (if lfR xs = true then [] else (List.range (cntR xs).toNat).map (kidA (begR xs))) := hp
    split at hp'
    · cases hp'
    · obtain ⟨j, _, rfl⟩ := List.mem_map.1 hp'
      exact (kid_ok hb j).1
theorem be_num : ∀ (n : Nat) (ys : List Int), ys.length = n → Byt ys → be n (numI ys) = ys
  | 0, ys, h, _ => by rw [List.length_eq_zero_iff.1 h]; rfl
  | n + 1, ys, h, hb => by
    obtain ⟨m, x, rfl⟩ : ∃ m x, ys = m ++ [x] := by
      rcases List.eq_nil_or_concat ys with rfl | ⟨m, x, rfl⟩
      · simp at h
      · exact ⟨m, x, by simp⟩
    have hx := hb x (by simp)
    rw [numI_snoc, be, show (numI m * 256 + x) / 256 = numI m by omega, show (numI m * 256 + x) % 256 = x by omega, be_num n m (by simpa using h) (fun y hy => hb y (by simp [hy]))]
theorem itB_bs (n : NV) (i : Nat) : itB n i = be 8 (n.ks.getD i 0) ++ bsN n i := rfl
theorem wrD_asN {n : NV} (h : okN n = true) : wrD (asN n) = nB n := by
  have e : frD (asN n) ++ bdD (asN n).l = bdB n n.ks.length := by
    unfold asN
    rw [h, if_pos rfl]
    show frD ⟨n.leaf, parts n⟩ ++ bdD (parts n) = _
    unfold frD bdD bdB frB
    rw [parts_len]
    unfold parts
    rw [List.flatMap_map]
    rfl
  unfold wrD nB
  rw [e]
theorem key_parts {n : NV} {i : Nat} (hi : i < n.ks.length) : keyD (parts n) i = n.ks.getD i 0 ∧ bytD (parts n) i = bsN n i := by
  unfold keyD bytD
  rw [List.getD_eq_getElem?_getD, parts_at n i hi]
  exact ⟨rfl, rfl⟩
theorem ok_parts {n : NV} (h : okN n = true) : (if n.leaf then n.vs.length else n.qs.length) = n.ks.length ∧ (if n.leaf then n.qs.length else n.vs.length) = 0 := by
  unfold okN at h
  cases hl : n.leaf <;> rw [hl] at h <;> simp at h ⊢ <;> omega
theorem bs_len {n : NV} (hp : n.okP) (h : okN n = true) {i : Nat} (hi : i < n.ks.length) : (bsN n i).length = szB n.leaf := by
  obtain ⟨h1, _⟩ := ok_parts h
  unfold bsN szB
  cases hl : n.leaf with
  | true =>
    rw [hl, if_pos rfl] at h1
    rw [if_pos rfl, if_pos rfl]
    exact (hp.2.1 _ (getD_mem (by omega))).2
  | false =>
    rw [hl, if_neg (by decide)] at h1
    rw [if_neg (by decide), if_neg (by decide), List.length_append, oc.be_len, (hp.2.2 _ (getD_mem (by omega))).2]
theorem right_eq {n : NV} (hp : n.okP) : rightB n.leaf n.ks n.vs.length n.qs.length = (okN n && rightD (asN n)) := by
  cases hok : okN n with
  | false =>
    rw [Bool.false_and]
    unfold rightB
    unfold okN at hok
    cases hl : n.leaf with
    | true =>
      rw [hl] at hok
      have : ¬ (n.vs.length = n.ks.length ∧ n.qs.length = 0) := by simpa using hok
      rw [decide_eq_false (fun h => this ⟨by simpa using h.2.2.1, by simpa using h.2.2.2⟩)]
      rfl
    | false =>
      rw [hl] at hok
      have : ¬ (n.qs.length = n.ks.length ∧ n.vs.length = 0) := by simpa using hok
      rw [decide_eq_false (fun h => this ⟨by simpa using h.2.2.1, by simpa using h.2.2.2⟩)]
      rfl
  | true =>
    rw [Bool.true_and]
    obtain ⟨h1, h2⟩ := ok_parts hok
    have ea : asN n = ⟨n.leaf, parts n⟩ := by unfold asN; rw [hok, if_pos rfl]
    rw [ea]
    have hg : (List.range (parts n).length).all (gdD ⟨n.leaf, parts n⟩) = risesB n.ks := by
      rw [parts_len, Bool.eq_iff_iff, List.all_eq_true]
      constructor
      · intro h
        refine risesB_yes fun j hj => ?_
        have h3 := h (j + 1) (List.mem_range.2 hj)
        unfold gdD at h3
        simp only [Bool.and_eq_true, Bool.or_eq_true, decide_eq_true_eq, Nat.add_sub_cancel] at h3
        rw [(key_parts (show j < n.ks.length by omega)).1, (key_parts hj).1] at h3
        rcases h3.1 with e | e
        · omega
        · exact e
      · intro h i hi
        have hi := List.mem_range.1 hi
        unfold gdD
        simp only [Bool.and_eq_true, Bool.or_eq_true, decide_eq_true_eq]
        refine ⟨?_, by rw [(key_parts hi).2]; exact bs_len hp hok hi⟩
        by_cases e : i = 0
        · exact .inl e
        · refine .inr ?_
          rw [(key_parts (show i - 1 < n.ks.length by omega)).1, (key_parts hi).1]
          have := risesB_at h (j := i - 1) (by omega)
          rw [show i - 1 + 1 = i by omega] at this
          exact this
    unfold rightD rightB
    rw [hg, parts_len, Bool.and_comm]
    congr 1
    rw [Bool.eq_iff_iff]
    simp only [decide_eq_true_eq, Bool.and_eq_true]
    constructor
    · exact fun h => ⟨h.1, h.2.1⟩
    · exact fun h => ⟨h.1, h.2, h1, h2⟩
theorem keys_parts (n : NV) : (parts n).map (·.1) = n.ks := by
  unfold parts
  rw [List.map_map]
  exact map_all n.ks 0 _ fun i hi => rfl
theorem bys_parts (n : NV) : (parts n).map (·.2) = (List.range n.ks.length).map (bsN n) := by
  unfold parts
  rw [List.map_map]
  rfl
theorem kid_inj {s t : Int} {y z : List Int} (hs : 0 ≤ s ∧ s ≤ 4294967295) (ht : 0 ≤ t ∧ t ≤ 4294967295) (h : be 4 s ++ y = be 4 t ++ z) : s = t ∧ y = z := by
  have hl : (be 4 s).length = (be 4 t).length := by rw [oc.be_len, oc.be_len]
  obtain ⟨e1, e2⟩ := List.append_inj h hl
  refine ⟨?_, e2⟩
  rw [← num_be4 hs, ← num_be4 ht, e1]
theorem same_eq {n m : NV} (hn : okN n = true) (hm : okN m = true) (fn : ∀ p ∈ n.qs, 0 ≤ p.1 ∧ p.1 ≤ 4294967295) (fm : ∀ p ∈ m.qs, 0 ≤ p.1 ∧ p.1 ≤ 4294967295) : sameB n m = sameD (asN n) (asN m) := by
  have en : asN n = ⟨n.leaf, parts n⟩ := by unfold asN; rw [hn, if_pos rfl]
  have em : asN m = ⟨m.leaf, parts m⟩ := by unfold asN; rw [hm, if_pos rfl]
  rw [en, em]
  have n1 := ok_parts hn
  have m1 := ok_parts hm
  rw [Bool.eq_iff_iff]
  unfold sameB sameD
  simp only [Bool.and_eq_true, decide_eq_true_eq]
  constructor
  · rintro ⟨h1, h2, h3, h4⟩
    refine ⟨h1, ?_⟩
    unfold parts
    rw [h2]
    congr 1
    funext i
    unfold bsN
    rw [h1, h3, h4]
  · rintro ⟨h1, h2⟩
    have hk : n.ks = m.ks := by rw [← keys_parts n, ← keys_parts m, h2]
    have hb : (List.range n.ks.length).map (bsN n) = (List.range m.ks.length).map (bsN m) := by rw [← bys_parts, ← bys_parts, h2]
    have hbi : ∀ i, i < n.ks.length → bsN n i = bsN m i := fun i hi => by
      have h3 : ((List.range n.ks.length).map (bsN n))[i]? = some (bsN n i) := by simp [hi]
      have h4 : ((List.range m.ks.length).map (bsN m))[i]? = some (bsN m i) := by rw [hk] at hi; simp [hi]
      rw [hb, h4] at h3
      injection h3 with h3
      exact h3.symm
    rw [← h1] at m1
    rw [← hk] at m1
    cases hl : n.leaf with
    | true =>
      rw [hl, if_pos rfl, if_pos rfl] at n1 m1
      have hv : n.vs = m.vs := List.ext_getElem (by omega) fun i q1 q2 => by
        have := hbi i (by omega)
        unfold bsN at this
        rw [← h1, hl, if_pos rfl, if_pos rfl] at this
        simpa [List.getD, q1, q2] using this
      refine ⟨by rw [← h1, hl], hk, hv, ?_⟩
      rw [List.length_eq_zero_iff.1 n1.2, List.length_eq_zero_iff.1 m1.2]
    | false =>
      rw [hl, if_neg (by decide), if_neg (by decide)] at n1 m1
      have hq : n.qs = m.qs := List.ext_getElem (by omega) fun i q1 q2 => by
        have := hbi i (by omega)
        unfold bsN at this
        rw [← h1, hl, if_neg (by decide), if_neg (by decide)] at this
        simp only [List.getD, List.getElem?_eq_getElem q1, List.getElem?_eq_getElem q2, Option.getD_some] at this
        obtain ⟨e1, e2⟩ := kid_inj (fn _ (List.getElem_mem q1)) (fm _ (List.getElem_mem q2)) this
        exact Prod.ext e1 e2
      refine ⟨by rw [← h1, hl], hk, ?_, hq⟩
      rw [List.length_eq_zero_iff.1 n1.2, List.length_eq_zero_iff.1 m1.2]
theorem rs_drop {n : NV} {pad : List Int} {c s : Nat} (h : ∀ i, i < c → (itB n i).length = s) : ∀ i, i ≤ c → (rs n pad 0 c).drop (s * i) = rs n pad i c
  | 0, _ => by simp
  | i + 1, hi => by
    rw [Nat.mul_succ, ← List.drop_drop, rs_drop h i (by omega), rs_step n pad (by omega : i < c), List.drop_left' (h i (by omega))]
theorem drop_nB (n : NV) : (nB n).drop 8 = rs n (padB n) 0 n.ks.length := by rw [nB_form]; rfl
theorem rd_nB_D {n : NV} (hp : n.okP) (hr : rightB n.leaf n.ks n.vs.length n.qs.length = true) : rdD (nB n) = asN n ∧ fineD (nB n) = true := by
  have hok : okN n = true := by have := right_eq hp; rw [hr] at this; cases h : okN n <;> rw [h] at this <;> simp at this
  have ea : asN n = ⟨n.leaf, parts n⟩ := by unfold asN; rw [hok, if_pos rfl]
  have hR := hr
  unfold rightB at hr
  simp only [Bool.and_eq_true, decide_eq_true_eq] at hr
  obtain ⟨⟨h1, h2, _, _⟩, _⟩ := hr
  have n0 : nth (nB n) 0 = if n.leaf = true then 1 else 2 := by rw [nB_form]; rfl
  have n1 : nth (nB n) 1 = (n.ks.length : Int) := by rw [nB_form]; rfl
  have hlf : lfD (nB n) = n.leaf := by unfold lfD; rw [n0]; cases n.leaf <;> rfl
  have hcnt : cntD (nB n) = n.ks.length := by
    unfold cntD
    rw [hlf, n1, Int.toNat_natCast]
    cases hl : n.leaf <;> rw [hl] at h2 <;> simp at h2 ⊢ <;> omega
  have hit : ∀ i, i < n.ks.length → (itB n i).length = 8 + szB n.leaf := fun i hi => by rw [itB_bs, List.length_append, oc.be_len, bs_len hp hok hi]
  refine ⟨?_, ?_⟩
  · unfold rdD
    rw [hlf, hcnt, ea]
    congr 1
    unfold rdL parts
    refine List.map_congr_left fun i hi => ?_
    have hi := List.mem_range.1 hi
    have e1 : (nB n).drop (8 + (8 + szB n.leaf) * i) = itB n i ++ rs n (padB n) (i + 1) n.ks.length := by rw [← List.drop_drop, drop_nB, rs_drop hit i (by omega), rs_step n _ hi]
    have e2 : (nB n).drop (16 + (8 + szB n.leaf) * i) = bsN n i ++ rs n (padB n) (i + 1) n.ks.length := by
      rw [show 16 + (8 + szB n.leaf) * i = 8 + (8 + szB n.leaf) * i + 8 by omega, ← List.drop_drop, e1, itB_bs, List.append_assoc, List.drop_left' (oc.be_len _ _)]
    rw [e1, e2, itB_bs, List.append_assoc, List.take_left' (oc.be_len _ _), List.take_left' (bs_len hp hok hi), num_be8 (hp.1 _ (getD_mem hi))]
  · unfold fineD
    have hl : (nB n).length = 512 := nB_512 hp hR
    rw [decide_eq_true hl, n0, n1]
    cases hl : n.leaf <;> rw [hl] at h2 <;> simp at h2 ⊢ <;> omega
/-- The node of a document's. -/
def ofD (x : DN) : NV := if x.leaf then ⟨true, x.l.map (·.1), x.l.map (·.2), []⟩ else ⟨false, x.l.map (·.1), [], x.l.map fun p => (numI (p.2.take 4), p.2.drop 4)⟩
theorem ofD_facts {x : DN} (hb : ∀ p ∈ x.l, (0 ≤ p.1 ∧ p.1 ≤ 18446744073709551615) ∧ Byt p.2 ∧ p.2.length = szB x.leaf) : (ofD x).okP ∧ (∀ p ∈ (ofD x).qs, 0 ≤ p.1 ∧ p.1 ≤ 4294967295) ∧ okN (ofD x) = true ∧ asN (ofD x) = x := by
  obtain ⟨lf, l⟩ := x
  have key : ∀ (i : Nat) (hi : i < l.length), (l.map (·.1)).getD i 0 = l[i].1 := fun i hi => by simp [List.getD, hi]
  cases lf with
  | true =>
    have ok : okN (ofD ⟨true, l⟩) = true := by unfold ofD okN; simp
    refine ⟨⟨?_, ?_, ?_⟩, ?_, ok, ?_⟩
    · intro k hk
      obtain ⟨p, hp, rfl⟩ := List.mem_map.1 (show k ∈ l.map (·.1) from hk)
      exact (hb p hp).1
    · intro z hz
      obtain ⟨p, hp, rfl⟩ := List.mem_map.1 (show z ∈ l.map (·.2) from hz)
      exact (hb p hp).2
    · intro p hp; cases hp
    · intro p hp; cases hp
    · unfold asN
      rw [ok, if_pos rfl]
      show (⟨true, parts (ofD ⟨true, l⟩)⟩ : DN) = ⟨true, l⟩
      congr 1
      refine List.ext_getElem (by rw [parts_len]; show (l.map (·.1)).length = _; simp) fun i q1 q2 => ?_
      have h := parts_at (ofD ⟨true, l⟩) i (by rw [parts_len] at q1; exact q1)
      rw [List.getElem?_eq_getElem q1] at h
      injection h with h
      rw [h]
      show ((l.map (·.1)).getD i 0, (l.map (·.2)).getD i []) = l[i]
      rw [key i q2, show (l.map (·.2)).getD i [] = l[i].2 by simp [List.getD, q2]]
  | false =>
    have ok : okN (ofD ⟨false, l⟩) = true := by unfold ofD okN; simp
    refine ⟨⟨?_, ?_, ?_⟩, ?_, ok, ?_⟩
    · intro k hk
      obtain ⟨p, hp, rfl⟩ := List.mem_map.1 (show k ∈ l.map (·.1) from hk)
      exact (hb p hp).1
    · intro z hz; cases hz
    · intro p hp
      obtain ⟨q, hq, rfl⟩ := List.mem_map.1 (show p ∈ l.map (fun p => (numI (p.2.take 4), p.2.drop 4)) from hp)
      have := (hb q hq).2
      refine ⟨this.1.drop 4, ?_⟩
      show (q.2.drop 4).length = 32
      rw [List.length_drop, this.2]; rfl
    · intro p hp
      obtain ⟨q, hq, rfl⟩ := List.mem_map.1 (show p ∈ l.map (fun p => (numI (p.2.take 4), p.2.drop 4)) from hp)
      have h := (hb q hq).2
      have hl4 : (q.2.take 4).length = 4 := by rw [List.length_take, h.2]; rfl
      have := oc.numI_bd 4 (q.2.take 4) hl4 (h.1.take 4)
      have e : (256 : Int) ^ 4 = 4294967296 := by decide
      exact ⟨this.1, by have := this.2; omega⟩
    · unfold asN
      rw [ok, if_pos rfl]
      show (⟨false, parts (ofD ⟨false, l⟩)⟩ : DN) = ⟨false, l⟩
      congr 1
      refine List.ext_getElem (by rw [parts_len]; show (l.map (·.1)).length = _; simp) fun i q1 q2 => ?_
      have h := parts_at (ofD ⟨false, l⟩) i (by rw [parts_len] at q1; exact q1)
      rw [List.getElem?_eq_getElem q1] at h
      injection h with h
      rw [h]
      show ((l.map (·.1)).getD i 0, be 4 ((l.map fun p => (numI (p.2.take 4), p.2.drop 4)).getD i (0, [])).1 ++ ((l.map fun p => (numI (p.2.take 4), p.2.drop 4)).getD i (0, [])).2) = l[i]
      have h3 := (hb l[i] (List.getElem_mem q2)).2
      have hl4 : (l[i].2.take 4).length = 4 := by rw [List.length_take, h3.2]; rfl
      rw [key i q2, show (l.map fun p => (numI (p.2.take 4), p.2.drop 4)).getD i (0, []) = (numI (l[i].2.take 4), l[i].2.drop 4) by simp [List.getD, q2]]
      rw [be_num 4 _ hl4 (h3.1.take 4), List.take_append_drop]
theorem rdD_byt {xs : List Int} (hb : Byt xs) (hf : fineD xs = true) : ∀ p ∈ (rdD xs).l, (0 ≤ p.1 ∧ p.1 ≤ 18446744073709551615) ∧ Byt p.2 ∧ p.2.length = szB (rdD xs).leaf := by
  unfold fineD at hf
  simp only [Bool.and_eq_true, decide_eq_true_eq] at hf
  obtain ⟨h1, ⟨_, _⟩, h3⟩ := hf
  intro p hp
  obtain ⟨i, hi, rfl⟩ := List.mem_map.1 (show p ∈ rdL xs (szB (lfD xs)) (cntD xs) from hp)
  have hi := List.mem_range.1 hi
  have hc : cntD xs ≤ 11 ∧ (8 + szB (lfD xs)) * cntD xs ≤ 500 := by
    unfold cntD szB
    cases lfD xs <;> simp <;> omega
  have hb2 : (8 + szB (lfD xs)) * (i + 1) ≤ 500 := Nat.le_trans (Nat.mul_le_mul_left _ hi) hc.2
  rw [Nat.mul_add, Nat.mul_one] at hb2
  generalize hq : (8 + szB (lfD xs)) * i = q at hb2 ⊢
  refine ⟨?_, (hb.drop _).take _, ?_⟩
  · have := oc.numI_part xs (8 + q) 8 hb (by omega)
    have e : (256 : Int) ^ 8 = 18446744073709551616 := by decide
    exact ⟨this.1, by have := this.2; omega⟩
  · show ((xs.drop (16 + q)).take (szB (lfD xs))).length = szB (lfD xs)
    rw [List.length_take, List.length_drop]
    omega
/-- Bytes are the one's just if they are the other's; then both tell the same. -/
theorem is_eq {xs : List Int} (hb : Byt xs) : isD xs = isN xs ∧ (isN xs = true → okN (rdN xs) = true ∧ asN (rdN xs) = rdD xs) := by
  have one : isN xs = true → isD xs = true ∧ okN (rdN xs) = true ∧ asN (rdN xs) = rdD xs := fun h => by
    obtain ⟨h1, h2⟩ := isN_parts h
    have hp : (rdN xs).okP := rdN_ok hb
    have hok : okN (rdN xs) = true := by have := right_eq hp; rw [h1] at this; cases h : okN (rdN xs) <;> rw [h] at this <;> simp at this
    have hrd : rightD (asN (rdN xs)) = true := by have := right_eq hp; rw [h1, hok] at this; simpa using this.symm
    obtain ⟨h3, h4⟩ := rd_nB_D hp h1
    rw [h2] at h3 h4
    refine ⟨?_, hok, h3.symm⟩
    unfold isD
    rw [h4, h3, hrd, wrD_asN hok, h2, decide_eq_true rfl]
    rfl
  have two : isD xs = true → isN xs = true := fun h => by
    unfold isD at h
    simp only [Bool.and_eq_true, decide_eq_true_eq] at h
    obtain ⟨h1, h2, h3⟩ := h
    obtain ⟨q1, q2, q3, q4⟩ := ofD_facts (rdD_byt hb h1)
    have hr : rightB (ofD (rdD xs)).leaf (ofD (rdD xs)).ks (ofD (rdD xs)).vs.length (ofD (rdD xs)).qs.length = true := by rw [right_eq q1, q3, q4, h2]; rfl
    have := is_nB q1 q2 hr
    rw [← wrD_asN q3, q4, h3] at this
    exact this
  refine ⟨?_, fun h => (one h).2⟩
  cases h : isN xs with
  | true => exact (one h).1
  | false =>
    cases h2 : isD xs with
    | true => rw [two h2] at h; cases h
    | false => rfl
end Go.Proofs.Ytnifaldgofmciaa
