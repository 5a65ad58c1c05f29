/-
  A tenant whose reserve is its quota: what others do, what it takes, what it drops. Condition: none.
-/
import Derived.Test.YtjgkochbfjlinaaW
namespace Go.Proofs.Ytjgkochbfjlinaa
open Go.RowKit
/-- The first tenant has just these extents, each held once. -/
structure PI (n : Nat) (s : St) (W : Nat → Int) (ms : List Nat) : Prop where
  t1 : s.T 1 = ⟨true, n, n, ms.length⟩
  nd : ms.Nodup
  el : ∀ e ∈ ms, e < 40 ∧ s.f e = 1 ∧ W e = 1
section
variable {n : Nat} {s : St} {W : Nat → Int} {ms : List Nat}
theorem PI.at (h : PI n s W ms) (f' : Nat → Nat) (T' : Nat → Acc) (W' : Nat → Int) (hT : T' 1 = s.T 1) (he : ∀ e ∈ ms, f' e = s.f e ∧ W' e = W e) : PI n ⟨f', T'⟩ W' ms :=
  ⟨hT.trans h.t1, h.nd, fun e hm => by obtain ⟨h1, h2, h3⟩ := h.el e hm; obtain ⟨k1, k2⟩ := he e hm; exact ⟨h1, k1.trans h2, k2.trans h3⟩⟩
theorem PI.acc (h : PI n s W ms) {t : Nat} (ht : t ≠ 1) (a : Acc) : PI n ⟨s.f, updT s.T t a⟩ W ms := h.at _ _ _ (updT_ne _ _ (fun e => ht e.symm)) (fun _ _ => ⟨rfl, rfl⟩)
theorem upd_ne (f : Nat → Nat) {i j : Nat} (v : Nat) (h : j ≠ i) : upd f i v j = f j := if_neg h
theorem updW_ne (W : Nat → Int) {i j : Nat} (v : Int) (h : j ≠ i) : updW W i v j = W j := if_neg h
theorem toNat_ne {t : Int} (h1 : 1 ≤ t) (ht : t ≠ 1) : t.toNat ≠ 1 := by omega
theorem sMore_f (s : St) (y j : Nat) (h : j ≠ y) : (sMore 40 s y).2.f j = s.f j := by
  show hF 40 s.f y j = _
  unfold hF
  split
  · rfl
  · split
    · rfl
    · exact upd_ne _ _ (by rw [Int.toNat_natCast]; exact h)
theorem PI.other {w : World} {g rb mb wb : Nat} (h : PI n s W ms) (fs : FS w g rb mb wb 40 s) (kd t a b : Int) (x : Nat) (ht : t ≠ 1) : PI n (doS 40 s W kd t a b x).2.1 (doS 40 s W kd t a b x).2.2 ms := by
  unfold doS
  split
  · show PI n (sAdm 40 s t a b).2 W ms
    unfold sAdm
    split
    · rename_i hm
      split
      · exact h
      · split
        · exact h
        · exact h.acc (toNat_ne hm.1 ht) _
    · exact h
  split
  · show PI n (sRes 40 s t a b).2 W ms
    unfold sRes
    split
    · rename_i hm
      split
      · split
        · exact h
        · split
          · exact h
          · exact h.acc (toNat_ne hm.1 ht) _
      · exact h
    · exact h
  split
  · show PI n (sRem s t).2 W ms
    unfold sRem
    split
    · rename_i hm
      split
      · exact h.acc (toNat_ne hm.1 ht) _
      · exact h
    · exact h
  split
  · show PI n (sTak 40 s t).2 (if (sTak 40 s t).1 = 0 then updW W (xTak 40 s t) t else W) ms
    by_cases hc : (sTak 40 s t).1 = 0
    · rw [if_pos hc]
      have hx := sTak_lt fs t hc
      have ex : xTak 40 s t = fst s.f 40 := by unfold xTak; rw [if_pos hc]
      rw [ex] at hx ⊢
      have hf := (fst_spec s.f 40).2.2 hx
      unfold sTak at hc ⊢
      split at hc
      · rename_i hm
        rw [if_pos hm]
        unfold sGet at hc ⊢
        split at hc
        · rename_i hr
          rw [if_pos hr]
          refine h.at _ _ _ (updT_ne _ _ (fun e => toNat_ne hm.1 ht e.symm)) (fun e he => ?_)
          have hne : e ≠ fst s.f 40 := fun k => by have := (h.el e he).2.1; rw [k, hf] at this; cases this
          exact ⟨upd_ne _ _ hne, updW_ne _ _ hne⟩
        · rename_i hr; exact absurd hc hr
      · cases hc
    · rw [if_neg hc]
      unfold sTak at hc ⊢
      split at hc
      · rename_i hm
        rw [if_pos hm]
        unfold sGet at hc ⊢
        split at hc
        · exact absurd rfl hc
        · rename_i hr; rw [if_neg hr]; exact h
      · rename_i hm; rw [if_neg hm]; exact h
  split
  · split
    · rename_i hW
      show PI n (sHld 40 s (x % 40)).2 W ms
      unfold sHld
      split
      · split
        · exact h
        · refine h.at (sMore 40 s (x % 40)).2.f s.T W rfl (fun e he => ?_)
          have hne : e ≠ x % 40 := fun k => by have := (h.el e he).2.2; rw [k, hW] at this; exact ht this
          exact ⟨sMore_f s _ _ hne, rfl⟩
      · exact h
    · exact h
  split
  · split
    · rename_i hW
      have hne : ∀ e ∈ ms, e ≠ x % 40 := fun e he k => by have := (h.el e he).2.2; rw [k, hW] at this; exact ht this
      have hs : (sDrp 40 s t (x % 40)).2.T 1 = s.T 1 ∧ ∀ e ∈ ms, (sDrp 40 s t (x % 40)).2.f e = s.f e := by
        unfold sDrp
        split
        · split
          · rename_i hm
            split
            · exact ⟨rfl, fun _ _ => rfl⟩
            · refine ⟨?_, fun e he => upd_ne _ _ (hne e he)⟩
              show (if s.f (x % 40) = 1 then addT s.T t.toNat (-1) else s.T) 1 = s.T 1
              split
              · exact updT_ne _ _ (fun e => toNat_ne hm.1 ht e.symm)
              · rfl
          · exact ⟨rfl, fun _ _ => rfl⟩
        · exact ⟨rfl, fun _ _ => rfl⟩
      refine h.at (sDrp 40 s t (x % 40)).2.f (sDrp 40 s t (x % 40)).2.T _ hs.1 (fun e he => ⟨hs.2 e he, ?_⟩)
      show (if (sDrp 40 s t (x % 40)).2.f (x % 40) = 0 then updW W (x % 40) 0 else W) e = W e
      split
      · exact updW_ne _ _ (hne e he)
      · rfl
    · exact h
  · exact h
set_option maxRecDepth 4000 in
theorem PI.take {w : World} {g rb mb wb : Nat} (h : PI n s W ms) (fs : FS w g rb mb wb 40 s) :
    (doS 40 s W 3 1 0 0 0).1.2 = (if n ≤ ms.length then 60 else 0) ∧ (n ≤ ms.length → PI n (doS 40 s W 3 1 0 0 0).2.1 (doS 40 s W 3 1 0 0 0).2.2 ms) ∧
      (¬ n ≤ ms.length → PI n (doS 40 s W 3 1 0 0 0).2.1 (doS 40 s W 3 1 0 0 0).2.2 (ms ++ [(doS 40 s W 3 1 0 0 0).1.1])) := by
  rw [doS_3]
  have hin : isIn s.T 1 := ⟨by decide, by decide, by show (s.T 1).i = true; rw [h.t1]⟩
  have e0 : sTak 40 s 1 = sGet 40 s 1 (fst s.f 40) := by unfold sTak; rw [if_pos hin]; rfl
  have hr : roomC 40 s.T 1 = if n ≤ ms.length then 60 else 0 := by
    unfold roomC
    rw [h.t1]
    by_cases hn : n ≤ ms.length
    · rw [if_pos hn, if_pos (by show (n : Int) ≤ ms.length; omega)]
    · rw [if_neg hn, if_neg (by show ¬ (n : Int) ≤ ms.length; omega), if_neg (by show ¬ ((n : Int) ≤ ms.length ∧ _); omega)]
  by_cases hn : n ≤ ms.length
  · rw [if_pos hn] at hr
    have e1 : sTak 40 s 1 = (60, s) := by rw [e0]; unfold sGet; rw [hr]; rfl
    rw [e1]
    refine ⟨by rw [if_pos hn], fun _ => ?_, fun k => absurd hn k⟩
    exact h
  · rw [if_neg hn] at hr
    have e1 : sTak 40 s 1 = (0, ⟨upd s.f (fst s.f 40) (s.f (fst s.f 40) + 1), addT s.T 1 1⟩) := by rw [e0]; unfold sGet; rw [if_pos hr]
    have hc : (sTak 40 s 1).1 = 0 := by rw [e1]
    have hx := sTak_lt fs 1 hc
    have ex : xTak 40 s 1 = fst s.f 40 := by unfold xTak; rw [if_pos hc]
    rw [ex] at hx ⊢
    rw [e1]
    have hf := (fst_spec s.f 40).2.2 hx
    have hle := (fst_spec s.f 40).1
    clear e0 ex hc hle e1
    generalize fst s.f 40 = q at *
    have hnot : q ∉ ms := fun k => by have := (h.el _ k).2.1; rw [hf] at this; cases this
    refine ⟨by rw [if_neg hn], fun k => absurd k hn, fun _ => ⟨?_, ?_, fun e he => ?_⟩⟩
    · show addT s.T 1 1 1 = _
      unfold addT
      rw [updT_self, h.t1]
      simp
    · show (ms ++ [q]).Nodup
      rw [List.nodup_append]
      exact ⟨h.nd, by simp, fun a ha b hb => by simp at hb; rw [hb]; intro k; rw [k] at ha; exact hnot ha⟩
    · have he' : e ∈ ms ++ [q] := he
      rw [List.mem_append] at he'
      show e < 40 ∧ upd s.f (q) (s.f (q) + 1) e = 1 ∧ (if (0 : Int) = 0 then updW W (q) 1 else W) e = 1
      rw [if_pos rfl]
      rcases he' with he' | he'
      · have hne : e ≠ q := fun k => hnot (k ▸ he')
        rw [upd_ne _ _ hne, updW_ne _ _ hne]
        exact h.el e he'
      · simp at he'
        rw [he']
        have q1 : upd s.f (q) (s.f (q) + 1) (q) = s.f (q) + 1 := if_pos rfl
        have q2 : updW W (q) 1 (q) = 1 := if_pos rfl
        rw [q1, q2, hf]
        exact ⟨hx, rfl, rfl⟩
theorem PI.drop (h : PI n s W ms) (k : Nat) (hk : k < ms.length) : ∃ s', sDrp 40 s 1 ms[k] = (0, s') ∧ PI n s' W (ms.eraseIdx k) := by
  obtain ⟨h1, h2, h3⟩ := h.el ms[k] (List.getElem_mem hk)
  have hin : isIn s.T 1 := ⟨by decide, by decide, by show (s.T 1).i = true; rw [h.t1]⟩
  have hc : (s.T (1 : Int).toNat).c = ms.length := by show (s.T 1).c = _; rw [h.t1]
  refine ⟨⟨upd s.f ms[k] 0, addT s.T 1 (-1)⟩, ?_, ?_, ?_, fun e he => ?_⟩
  · unfold sDrp
    rw [if_pos h1, if_pos hin, hc, if_neg (by rw [h2]; omega), if_pos h2, h2]
    rfl
  · show addT s.T 1 (-1) 1 = _
    unfold addT
    rw [updT_self, h.t1, List.length_eraseIdx_of_lt hk]
    simp only
    congr 1
    omega
  · exact h.nd.sublist (List.eraseIdx_sublist _ _)
  · have hmem : e ∈ ms := List.mem_of_mem_eraseIdx he
    have hne : e ≠ ms[k] := fun q => by
      rw [List.mem_eraseIdx_iff_getElem?] at he
      obtain ⟨j, hj, hje⟩ := he
      obtain ⟨hjl, hje2⟩ := List.getElem?_eq_some_iff.1 hje
      have := (List.nodup_iff_pairwise_ne.1 h.nd)
      rw [List.pairwise_iff_getElem] at this
      rcases Nat.lt_trichotomy j k with hlt | hlt | hlt
      · exact this j k hjl hk hlt (by rw [hje2, q])
      · exact hj hlt
      · exact this k j hk hjl hlt (by rw [hje2, q])
    show e < 40 ∧ upd s.f ms[k] 0 e = 1 ∧ W e = 1
    rw [upd_ne _ _ hne]
    exact h.el e hmem
theorem PI.start (hn : n ≤ 15) : (sAdm 40 z0 1 n n).1 = 0 ∧ PI n (sAdm 40 z0 1 n n).2 (fun _ => 0) [] := by
  have hm : mayL 40 1 n n := ⟨by decide, by decide, by omega, Int.le_refl _, by show (n : Int) ≤ 40; omega⟩
  have hs : slack 40 z0.T = 40 := rfl
  unfold sAdm
  rw [if_pos hm, if_neg (by show ¬ (false = true); decide), hs, if_neg (by omega)]
  exact ⟨rfl, by show updT z0.T 1 _ 1 = _; rw [updT_self]; rfl, List.nodup_nil, fun e he => by cases he⟩
end
end Go.Proofs.Ytjgkochbfjlinaa
