/-
  A log behind a text more: what its blocks must be like. No condition.
-/
import Derived.Test.YtjdamlmoegippaaDoorHlLB
namespace Go.Proofs.YtjdamlmoegippaaDoor.hl
open Go.RowKit
theorem TX.at {S S' : Nat → Prop} {w w' : World} {u : Value} {t : List Int} (h : TX S w u t) (hb : ∀ b cs, S b → w.heap[b]? = some (.cells cs 5 (0, 0)) → w'.heap[b]? = w.heap[b]?) (hS : ∀ b, S b → S' b) : TX S' w' u t :=
  ⟨h.1.same (fun b e => by obtain ⟨h1, cs, h2⟩ := h.2 b e; exact hb b cs h1 h2), fun b e => by
    obtain ⟨h1, cs, h2⟩ := h.2 b e
    exact ⟨hS b h1, cs, by rw [hb b cs h1 h2]; exact h2⟩⟩
set_option maxRecDepth 100000 in
theorem updL_same {f : Lit → Option Value} {k : List Int} (hk : Byt k) (lk : k.length = 32) (o : Option Value) : updL f (kl k) o (kl k) = o := by
  unfold updL
  rw [if_pos (WideAt.sameKey_self (keyed31.key (kl_is k hk lk)))]
theorem updL_other {f : Lit → Option Value} {j k : List Int} (hj : Byt j) (lj : j.length = 32) (hk : Byt k) (lk : k.length = 32) (hne : j ≠ k) (o : Option Value) : updL f (kl k) o (kl j) = f (kl j) := by
  unfold updL
  rw [if_neg]
  rw [Maps.sameKey_ne (fun e => hne (kl_inj hj lj hk lk e))]
  simp
theorem Rw.block {S : Nat → Prop} {w : World} {v : Value} {R : List (List Int)} (h : Rw S w (some v) R) {b : Nat} (e : v.ownBlock = some b) : S b ∧ ∃ cs, w.heap[b]? = some (.cells cs 37 (0, 0)) := by
  rcases h with ⟨h, _⟩ | ⟨v', xs, h1, h2, ⟨_, ⟨rfl, _⟩ | ⟨g, cap, cur, rfl, _, hg, _⟩⟩, h4, _⟩
  · cases h
  · obtain rfl := Option.some.inj h1
    simp [Value.ownBlock] at e
  · obtain rfl := Option.some.inj h1
    have := h4 b e
    simp only [Value.ownBlock, Option.some.injEq] at e
    subst e
    exact ⟨this, _, hg⟩
theorem lg_push {S : Nat → Prop} {w w' : World} {g mb s s' : Nat} {T : List (List Int)} {f : Lit → Option Value} {C C' b k : List Int} {v' u : Value} {xs : List Value}
    (h : LGs S w g T mb s f C) (hk : k = sha b) (hb : Byt b) (hlen : b.length ≤ 140737488351232) (hnew : b ∉ T)
    (head' : w'.heap[g]? = some (.cells (lcells mb (T.length + 1) (clk sha (T ++ [b])).isSome C') 108 (0, 0)))
    (map' : MapV Tryd.prog 24 w' mb s' (updL f (kl k) (some v'))) (hs' : s' ≤ s + 1)
    (hx : ∀ (i : Nat) (t : List Int), (ofSum sha T k)[i]? = some t → ∃ u, xs[i]? = some u ∧ TX S w u t) (xl : xs.length = (ofSum sha T k).length)
    (row' : w'.ownsRow 0 37 1 v' ((ofSum sha T k).length + 1) (xs ++ [u]))
    (vb : ∀ q, v'.ownBlock = some q → (∃ v0, f (kl k) = some v0 ∧ v0.ownBlock = some q) ∨ w.heap.size ≤ q ∧ q < w'.heap.size)
    (hu : Sees w' u b ∧ ∀ q, u.ownBlock = some q → (w.heap.size ≤ q ∧ q < w'.heap.size) ∧ ∃ cs, w'.heap[q]? = some (.cells cs 5 (0, 0)))
    (same : ∀ q, S q → q ≠ g → q ≠ mb → (∀ v0, f (kl k) = some v0 → v0.ownBlock ≠ some q) → w'.heap[q]? = w.heap[q]?)
    (hsz : w.heap.size ≤ w'.heap.size) (clash' : ∀ c, clk sha (T ++ [b]) = some c → C' = c) (clen' : C'.length = 32 ∧ Byt C') :
    LGs (fun q => S q ∨ w.heap.size ≤ q ∧ q < w'.heap.size) w' g (T ++ [b]) mb s' (updL f (kl k) (some v')) C' := by
  have bk : Byt k := by rw [hk]; exact sha_byt b
  have lk : k.length = 32 := by rw [hk]; exact sha_len b hb
  have ng : ∀ q cs t, w.heap[q]? = some (.cells cs t (0, 0)) → t ≠ 108 → q ≠ g := fun q cs t e ht e2 => by
    subst e2
    rw [h.head] at e
    simp only [Option.some.injEq, Obj.cells.injEq] at e
    exact ht e.2.1.symm
  have nm : ∀ q cs t, w.heap[q]? = some (.cells cs t (0, 0)) → q ≠ mb := fun q cs t e e2 => by
    subst e2
    obtain ⟨es, c, e3⟩ := h.map.isMap
    rw [e3] at e
    cases e
  have txt : ∀ q cs, S q → w.heap[q]? = some (.cells cs 5 (0, 0)) → w'.heap[q]? = w.heap[q]? := fun q cs hS e => by
    refine same q hS (ng q cs 5 e (by decide)) (nm q cs 5 e) (fun v0 hv0 e2 => ?_)
    have hr := h.rows k bk lk
    rw [hv0] at hr
    obtain ⟨_, cs2, e3⟩ := hr.block e2
    rw [e] at e3
    simp at e3
  have old : ∀ j, Byt j → j.length = 32 → j ≠ k → ∀ v, f (kl j) = some v → ∀ q, v.ownBlock = some q → w'.heap[q]? = w.heap[q]? := fun j hj lj hne v hv q e => by
    have hr := h.rows j hj lj
    rw [hv] at hr
    obtain ⟨hS, cs, e3⟩ := hr.block e
    exact same q hS (ng q cs 37 e3 (by decide)) (nm q cs 37 e3) (fun v0 hv0 e2 => h.apart k j bk lk hj lj (fun e => hne e.symm) v0 v hv0 hv q e2 e)
  exact {
    head := by rw [List.length_append]; exact head'
    map := map'
    rows := fun j hj lj => by
      rw [ofSum_snoc]
      by_cases e : j = k
      · subst e
        rw [updL_same bk lk, if_pos hk.symm]
        refine .inr ⟨v', xs ++ [u], rfl, by simp, by rw [List.length_append]; exact row', fun q e => ?_, fun i t hi => ?_⟩
        · rcases vb q e with ⟨v0, e1, e2⟩ | e1
          · have hr := h.rows j bk lk
            rw [e1] at hr
            exact .inl (hr.block e2).1
          · exact .inr e1
        · rcases Nat.lt_or_ge i (ofSum sha T j).length with h1 | h1
          · rw [List.getElem?_append_left h1] at hi
            obtain ⟨u', e1, e2⟩ := hx i t hi
            exact ⟨u', by rw [List.getElem?_append_left (by rw [xl]; exact h1)]; exact e1, e2.at txt (fun b hb => .inl hb)⟩
          · have hil : i = (ofSum sha T j).length := by
              have := (List.getElem?_eq_some_iff.1 hi).1
              rw [List.length_append] at this
              simp at this
              omega
            subst hil
            rw [List.getElem?_append_right (Nat.le_refl _), Nat.sub_self] at hi
            simp at hi
            subst hi
            refine ⟨u, by rw [List.getElem?_append_right (by rw [xl]; exact Nat.le_refl _), xl, Nat.sub_self]; rfl, hu.1, fun q e => ?_⟩
            obtain ⟨e1, e2⟩ := hu.2 q e
            exact ⟨.inr e1, e2⟩
      · rw [updL_other hj lj bk lk e, if_neg (fun e2 => e (by rw [hk]; exact e2.symm))]
        rcases h.rows j hj lj with h1 | ⟨v, ys, e1, e2, e3, e4, e5⟩
        · exact .inl h1
        · refine .inr ⟨v, ys, e1, e2, ownsRow_same e3 (old j hj lj e v e1), fun q e6 => .inl (e4 q e6), fun i t hi => ?_⟩
          obtain ⟨u', e6, e7⟩ := e5 i t hi
          exact ⟨u', e6, e7.at txt (fun b hb => .inl hb)⟩
    apart := fun i j hi li hj lj hne v1 v2 e1 e2 q e3 e4 => by
      by_cases ei : i = k
      · subst ei
        rw [updL_same bk lk] at e1
        obtain rfl := Option.some.inj e1
        rw [updL_other hj lj bk lk (fun e => hne e.symm)] at e2
        have hr := h.rows j hj lj
        rw [e2] at hr
        have hS := (hr.block e4).1
        rcases vb q e3 with ⟨v0, e5, e6⟩ | e5
        · exact h.apart i j bk lk hj lj hne v0 v2 e5 e2 q e6 e4
        · have := (h.own q hS).2
          omega
      · rw [updL_other hi li bk lk ei] at e1
        have hr := h.rows i hi li
        rw [e1] at hr
        have hS := (hr.block e3).1
        by_cases ej : j = k
        · subst ej
          rw [updL_same bk lk] at e2
          obtain rfl := Option.some.inj e2
          rcases vb q e4 with ⟨v0, e5, e6⟩ | e5
          · exact h.apart i j hi li bk lk hne v1 v0 e1 e5 q e3 e6
          · have := (h.own q hS).2
            omega
        · rw [updL_other hj lj bk lk ej] at e2
          exact h.apart i j hi li hj lj hne v1 v2 e1 e2 q e3 e4
    own := fun q hq => by
      rcases hq with hq | hq
      · have := h.own q hq
        omega
      · have := (h.own g h.sg)
        omega
    sg := .inl h.sg
    sm := .inl h.sm
    small := by have := h.small; rw [List.length_append]; simp; omega
    nodup := by
      have := addT_nodup h.nodup b
      unfold addT at this
      rwa [if_neg hnew] at this
    byt := fun t ht => by
      rcases List.mem_append.1 ht with ht | ht
      · exact h.byt t ht
      · rw [List.mem_singleton] at ht
        subst ht
        exact ⟨hb, hlen⟩
    clash := clash'
    clen := clen' }
end Go.Proofs.YtjdamlmoegippaaDoor.hl
