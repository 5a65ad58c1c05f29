/-
  What the bytes of a right node tell is the node. Condition: its parts are bytes, its numbers are in their ranges.
-/
import Derived.Test.YtnifaldgofmciaaNdU
namespace Go.Proofs.Ytnifaldgofmciaa
open Go.RowKit
open oc (Byt Sees Own be nth got rst shrt getV numI numI_snoc)
theorem numI_be : ∀ (n : Nat) (v : Int), 0 ≤ v → v < 256 ^ n → numI (be n v) = v
  | 0, v, h0, h1 => by simp at h1; simp [be, numI]; omega
  | n + 1, v, h0, h1 => by
    rw [Int.pow_succ] at h1
    rw [be, numI_snoc, numI_be n (v / 256) (by omega) (by omega)]
    omega
theorem num_be8 {v : Int} (h : 0 ≤ v ∧ v ≤ 18446744073709551615) : numI (be 8 v) = v := by
  have e : (256 : Int) ^ 8 = 18446744073709551616 := by decide
  exact numI_be 8 v h.1 (by omega)
theorem num_be4 {v : Int} (h : 0 ≤ v ∧ v ≤ 4294967295) : numI (be 4 v) = v := by
  have e : (256 : Int) ^ 4 = 4294967296 := by decide
  exact numI_be 4 v h.1 (by omega)
theorem shrt_no (A r : List Int) (n : Nat) (h : A.length = n) : shrt (A ++ r).length false (n : Int) = false := by
  unfold shrt
  simp [h]
  omega
theorem gt_app (A r : List Int) (n : Nat) (h : A.length = n) : gt (A ++ r, false) (n : Int) = A := by
  show got (A ++ r) false (n : Int) = A
  unfold got
  rw [shrt_no A r n h, if_neg (by simp), Int.toNat_natCast, List.take_left' h]
theorem nxt_app (A r : List Int) (n : Nat) (h : A.length = n) : nxt (A ++ r, false) (n : Int) = (r, false) := by
  show (rst (A ++ r) false (n : Int), shrt (A ++ r).length false (n : Int)) = _
  unfold rst
  rw [shrt_no A r n h, if_neg (by simp), Int.toNat_natCast, List.drop_left' h]
theorem getV_all (A : List Int) (n : Nat) (h : A.length = n) : getV A 0 n = numI A := by
  unfold getV
  rw [if_neg (by decide), if_neg (by omega)]
  simp [List.take_of_length_le (Nat.le_of_eq h)]
theorem fix_all (A : List Int) (n : Nat) (h : A.length = n) : fix n A = A := by
  unfold fix
  simp [h]
/-- What stands in front of the key at a place. -/
def rs (n : NV) (pad : List Int) (i c : Nat) : List Int := ((List.range c).drop i).flatMap (itB n) ++ pad
theorem rs_step (n : NV) (pad : List Int) {i c : Nat} (h : i < c) : rs n pad i c = itB n i ++ rs n pad (i + 1) c := by
  unfold rs
  rw [List.drop_eq_getElem_cons (by simpa using h)]
  simp
theorem it_leaf {n : NV} (hl : n.leaf = true) (i : Nat) : itB n i = be 8 (n.ks.getD i 0) ++ n.vs.getD i [] := by unfold itB; rw [if_pos hl]
theorem it_inner {n : NV} (hl : n.leaf = false) (i : Nat) : itB n i = be 8 (n.ks.getD i 0) ++ (be 4 (n.qs.getD i (0, [])).1 ++ (n.qs.getD i (0, [])).2) := by unfold itB; rw [if_neg (by rw [hl]; decide)]
theorem gt8 (A r : List Int) (h : A.length = 8) : gt (A ++ r, false) 8 = A := gt_app A r 8 h
theorem gt4 (A r : List Int) (h : A.length = 4) : gt (A ++ r, false) 4 = A := gt_app A r 4 h
theorem gt44 (A r : List Int) (h : A.length = 44) : gt (A ++ r, false) 44 = A := gt_app A r 44 h
theorem gt32 (A r : List Int) (h : A.length = 32) : gt (A ++ r, false) 32 = A := gt_app A r 32 h
theorem nx8 (A r : List Int) (h : A.length = 8) : nxt (A ++ r, false) 8 = (r, false) := nxt_app A r 8 h
theorem nx4 (A r : List Int) (h : A.length = 4) : nxt (A ++ r, false) 4 = (r, false) := nxt_app A r 4 h
theorem nx44 (A r : List Int) (h : A.length = 44) : nxt (A ++ r, false) 44 = (r, false) := nxt_app A r 44 h
theorem nx32 (A r : List Int) (h : A.length = 32) : nxt (A ++ r, false) 32 = (r, false) := nxt_app A r 32 h
theorem st_leaf {n : NV} (hl : n.leaf = true) (hv : ∀ z ∈ n.vs, z.length = 44) (pad : List Int) (c : Nat) (hc : c ≤ n.vs.length) : ∀ i, i ≤ c → stA true (rs n pad 0 c, false) i = (rs n pad i c, false)
  | 0, _ => rfl
  | i + 1, h => by
    have e := st_leaf hl hv pad c hc i (by omega)
    unfold stA
    rw [if_pos rfl, e, rs_step n pad (by omega : i < c), it_leaf hl, List.append_assoc, nx8 _ _ (oc.be_len _ _), nx44 _ _ (hv _ (getD_mem (by omega)))]
theorem st_inner {n : NV} (hl : n.leaf = false) (hq : ∀ p ∈ n.qs, p.2.length = 32) (pad : List Int) (c : Nat) (hc : c ≤ n.qs.length) : ∀ i, i ≤ c → stA false (rs n pad 0 c, false) i = (rs n pad i c, false)
  | 0, _ => rfl
  | i + 1, h => by
    have e := st_inner hl hq pad c hc i (by omega)
    unfold stA
    rw [if_neg (by decide), e, rs_step n pad (by omega : i < c), it_inner hl, List.append_assoc, List.append_assoc, nx8 _ _ (oc.be_len _ _), nx4 _ _ (oc.be_len _ _), nx32 _ _ (hq _ (getD_mem (by omega)))]
theorem map_all {α : Type} (l : List α) (d : α) (f : Nat → α) (h : ∀ i, i < l.length → f i = l.getD i d) : (List.range l.length).map f = l := by
  refine List.ext_getElem (by simp) fun i h1 h2 => ?_
  rw [List.getElem_map, List.getElem_range, h i h2, List.getD_eq_getElem?_getD, List.getElem?_eq_getElem h2]
  rfl
def padB (n : NV) : List Int := List.replicate (512 - (bdB n n.ks.length).length) 0
theorem nB_form (n : NV) : nB n = [if n.leaf = true then 1 else 2] ++ ([(n.ks.length : Int)] ++ (List.replicate 6 0 ++ rs n (padB n) 0 n.ks.length)) := by
  unfold nB bdB frB rs padB
  simp [bdB, frB]
theorem beg_nB (n : NV) : begR (nB n) = (rs n (padB n) 0 n.ks.length, false) := by
  unfold begR
  rw [nB_form]
  rw [show nxt ([if n.leaf = true then 1 else 2] ++ ([(n.ks.length : Int)] ++ (List.replicate 6 0 ++ rs n (padB n) 0 n.ks.length)), false) 1 = ([(n.ks.length : Int)] ++ (List.replicate 6 0 ++ rs n (padB n) 0 n.ks.length), false) from nxt_app _ _ 1 rfl]
  rw [show nxt ([(n.ks.length : Int)] ++ (List.replicate 6 0 ++ rs n (padB n) 0 n.ks.length), false) 1 = (List.replicate 6 0 ++ rs n (padB n) 0 n.ks.length, false) from nxt_app _ _ 1 rfl]
  exact nxt_app _ _ 6 (by simp)
theorem cnt_nB (n : NV) : cntR (nB n) = n.ks.length := by
  unfold cntR
  rw [nB_form]
  rw [show nxt ([if n.leaf = true then 1 else 2] ++ ([(n.ks.length : Int)] ++ (List.replicate 6 0 ++ rs n (padB n) 0 n.ks.length)), false) 1 = ([(n.ks.length : Int)] ++ (List.replicate 6 0 ++ rs n (padB n) 0 n.ks.length), false) from nxt_app _ _ 1 rfl]
  rw [show gt ([(n.ks.length : Int)] ++ (List.replicate 6 0 ++ rs n (padB n) 0 n.ks.length), false) 1 = [(n.ks.length : Int)] from gt_app _ _ 1 rfl, getV_all _ 1 rfl]
  simp [numI]
theorem lf_nB (n : NV) : lfR (nB n) = n.leaf := by
  unfold lfR
  rw [nB_form]
  rw [show gt ([if n.leaf = true then 1 else 2] ++ ([(n.ks.length : Int)] ++ (List.replicate 6 0 ++ rs n (padB n) 0 n.ks.length)), false) 1 = [if n.leaf = true then 1 else 2] from gt_app _ _ 1 rfl, getV_all _ 1 rfl]
  cases n.leaf <;> simp [numI]
/-- There and back. -/
theorem rd_nB {n : NV} (h : n.okP) (hf : ∀ p ∈ n.qs, 0 ≤ p.1 ∧ p.1 ≤ 4294967295) (hr : rightB n.leaf n.ks n.vs.length n.qs.length = true) : rdN (nB n) = n := by
  unfold rightB at hr
  simp only [Bool.and_eq_true, decide_eq_true_eq] at hr
  obtain ⟨⟨_, _, h3, h4⟩, _⟩ := hr
  obtain ⟨k1, k2, k3⟩ := h
  unfold rdN
  rw [lf_nB, cnt_nB, beg_nB, Int.toNat_natCast]
  cases hl : n.leaf with
  | true =>
    rw [hl, if_pos rfl] at h3 h4
    have hq : n.qs = [] := List.length_eq_zero_iff.1 h4
    have st := st_leaf hl (fun z hz => (k2 z hz).2) (padB n) n.ks.length (by omega)
    have e1 : (List.range n.ks.length).map (keyA true (rs n (padB n) 0 n.ks.length, false)) = n.ks := map_all n.ks 0 _ fun i hi => by
      unfold keyA
      rw [st i (by omega), rs_step n _ hi, it_leaf hl, List.append_assoc, gt8 _ _ (oc.be_len _ _), getV_all _ 8 (oc.be_len _ _), num_be8 (k1 _ (getD_mem hi))]
    have e2 : (List.range n.ks.length).map (valA (rs n (padB n) 0 n.ks.length, false)) = n.vs := by
      rw [← h3]
      refine map_all n.vs [] _ fun i hi => ?_
      have z44 := (k2 _ (getD_mem (d := []) hi)).2
      unfold valA
      rw [h3, st i (by omega), rs_step n _ (by omega : i < n.ks.length), it_leaf hl, List.append_assoc, nx8 _ _ (oc.be_len _ _), gt44 _ _ z44, fix_all _ 44 z44]
    rw [e1, if_pos rfl, e2, if_pos rfl]
    cases n
    simp_all
  | false =>
    rw [hl, if_neg (by decide)] at h3 h4
    have hv : n.vs = [] := List.length_eq_zero_iff.1 h4
    have st := st_inner hl (fun p hp => (k3 p hp).2) (padB n) n.ks.length (by omega)
    have e1 : (List.range n.ks.length).map (keyA false (rs n (padB n) 0 n.ks.length, false)) = n.ks := map_all n.ks 0 _ fun i hi => by
      unfold keyA
      rw [st i (by omega), rs_step n _ hi, it_inner hl, List.append_assoc, gt8 _ _ (oc.be_len _ _), getV_all _ 8 (oc.be_len _ _), num_be8 (k1 _ (getD_mem hi))]
    have e2 : (List.range n.ks.length).map (kidA (rs n (padB n) 0 n.ks.length, false)) = n.qs := by
      rw [← h3]
      refine map_all n.qs (0, []) _ fun i hi => ?_
      have z32 := (k3 _ (getD_mem (d := (0, [])) hi)).2
      have zf := hf _ (getD_mem (d := (0, [])) hi)
      unfold kidA
      rw [h3, st i (by omega), rs_step n _ (by omega : i < n.ks.length), it_inner hl, List.append_assoc, List.append_assoc, nx8 _ _ (oc.be_len _ _), gt4 _ _ (oc.be_len _ _), nx4 _ _ (oc.be_len _ _), gt32 _ _ z32, fix_all _ 32 z32, getV_all _ 4 (oc.be_len _ _), num_be4 zf]
    rw [e1, if_neg (by decide), e2, if_neg (by decide)]
    cases n
    simp_all
theorem is_nB {n : NV} (h : n.okP) (hf : ∀ p ∈ n.qs, 0 ≤ p.1 ∧ p.1 ≤ 4294967295) (hr : rightB n.leaf n.ks n.vs.length n.qs.length = true) : isN (nB n) = true := by
  unfold isN
  rw [rd_nB h hf hr, hr]
  simp
end Go.Proofs.Ytnifaldgofmciaa
