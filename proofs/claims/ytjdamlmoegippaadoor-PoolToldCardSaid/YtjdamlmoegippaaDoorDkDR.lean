/-
  A row of things that may begin anywhere in its block ('Rw'), with what an append makes of it. Condition: none.
-/
import Derived.Test.YtjdamlmoegippaaDoorDkF
import Derived.Deep.Slices
import Derived.Deep.Fields
import Derived.ChangeSame
import Derived.Shelf.SlMaps.Clone
import Derived.Laws.CopyRow
import Derived.Deep.RegionHeld3
namespace Go.Proofs.YtjdamlmoegippaaDoor.dk
open Go.ChangeShapes Go.WideShapes Go.ChangeAt Go.RowKit Go.Deep

theorem own : ownKnob Tryd.prog.godebug = none := by kernel_rfl
theorem laid : laidOutB Tryd.prog = true := by kernel_rfl

theorem all_stay {H : Type} {enc : TypeId × Value → H} {P : Program} (hl : laidOutB P = true) {W W' : World} (hb : Below W.heap.size W W') (ts : List TypeId) :
    ∀ (vs : List Value) (ds : List (DataW H)) (ps : List MemPlace), ts.all (fun t => P.readableRec t && decide (t < P.types.size)) = true → (∀ p ∈ ps, p.block < W.heap.size) →
      DataW.TrodAll enc P W 0 (fun _ => true) true ts vs ds ps → DataW.TrodAll enc P W' 0 (fun b => decide (b < W.heap.size)) true ts vs ds ps := by
  induction ts with
  | nil =>
    intro vs ds ps _ _ h
    cases vs <;> cases ds <;> simp_all [DataW.TrodAll]
  | cons t ts ih =>
    intro vs ds ps hr hp h
    cases vs with
    | nil => exact (h : False).elim
    | cons v vs =>
      cases ds with
      | nil => exact (h : False).elim
      | cons d ds =>
        obtain ⟨p, q, h1, h2, e⟩ := h
        subst e
        rw [List.all_cons, Bool.and_eq_true, Bool.and_eq_true] at hr
        exact ⟨p, q, Below.trod hl hr.1.1 (of_decide_eq_true hr.1.2) h1 hb (fun x hx => hp x (List.mem_append_left _ hx)),
          ih vs ds q hr.2 (fun x hx => hp x (List.mem_append_right _ hx)) h2, rfl⟩

theorem law_post {H : Type} {enc : TypeId × Value → H} {f : Func} {s : ChangeSpec} {W W' : World} {args : Array Value} {ds gs : List (DataW H)} {before : List MemPlace}
    (hW : DataW.Whole enc Tryd.prog f.params.toList s.vars false W args.toList ds gs before) (hv : s.vars = []) (hs : s.fn H (ds ++ gs) = { results := [.lit (.bool true)], args := ds })
    (hr : f.resultTypes = #[4]) (hp : f.params.toList.all (fun t => Tryd.prog.readableRec t && decide (t < Tryd.prog.types.size)) = true) (hb : Below W.heap.size W W') :
    s.post enc Tryd.prog f false true false false W args (.bool true) W' := by
  have hlt : ∀ p ∈ before, p.block < W.heap.size := fun p hp => hW.lt p hp
  have hW' := hW
  obtain ⟨p, q, hA, hV, he, _, _⟩ := hW'
  rw [hv] at hV
  obtain ⟨rfl, rfl⟩ := trodVars_none hV
  subst he
  refine ⟨ds, [], _, [], p, [], hW, ?_, ?_, ?_, ?_, fun h => by cases h⟩
  · rw [hs, hr]
    exact trodAll_mk1 (shut_bool Tryd.underlying4 _)
  · rw [hs]
    exact all_stay laid hb _ _ _ _ hp (fun x hx => hlt x (List.mem_append_left _ hx)) hA
  · rw [hs, hv]
    rfl
  · exact hb.frame _


section
variable {H : Type} {enc : TypeId × Value → H} {w : World} {r : Reach} {b0 base : Nat} {v : Value} {d : DataW H} {ps : List MemPlace}
/-- A slice of L structs of m ints each. -/
def SO (m : Nat) (w : World) (v : Value) (L : Nat) (f : Nat → Nat → Int) : Prop :=
  ∃ x c, v = .slice x L c ∧ L ≤ c ∧ c ≤ maxLen ∧ ∀ i j, i < L → j < m → -9223372036854775808 ≤ f i j ∧ f i j ≤ 9223372036854775807 ∧ ∃ b o, x = some ⟨b, o, none⟩ ∧ b < w.heap.size ∧ w.cell? ⟨b, o + (i * m + j), none⟩ = some (.int .i64 (f i j))
end

end Go.Proofs.YtjdamlmoegippaaDoor.dk
namespace Go.Proofs.YtjdamlmoegippaaDoor.dk
open Go.ChangeShapes Go.WideShapes Go.ChangeAt Go.RowKit Go.Deep
/-- The first free place among k from s on. -/
def frq (f : Nat → Nat) : Nat → Nat → Option Nat
  | 0, _ => none
  | k + 1, s => if f s = 0 then some s else frq f k (s + 1)
/-- The first free place of a row, from a place on. -/
def fro (N : Nat) (f : Nat → Nat) (i : Int) : Option Nat := frq f (N - i.toNat) i.toNat
/-- What an op makes of a row. -/
def stp (N : Nat) (f : Nat → Nat) (k i : Int) : Nat → Nat :=
  if k = 0 then hF N f i else if k = 1 then dF N f i else if k = 2 then (match fro N f i with | some q => hF N f q | none => f) else f
/-- What ops make of a row of 150 places. -/
def play (F : Nat → Nat → Int) : Nat → Nat → Nat
  | 0 => fun _ => 0
  | n + 1 => stp 150 (play F n) (F n 0) (F n 1)
theorem SO.below {m : Nat} {w w' : World} {v : Value} {L : Nat} {f : Nat → Nat → Int} (h : SO m w v L f) (hb : Below w.heap.size w w') : SO m w' v L f := by
  obtain ⟨x, c, rfl, h1, h2, h3⟩ := h
  refine ⟨x, c, rfl, h1, h2, fun i j hi hj => ?_⟩
  obtain ⟨p0, p1, b, o, e, h4, h5⟩ := h3 i j hi hj
  exact ⟨p0, p1, b, o, e, by have := hb.size; omega, (hb.cell (p := ⟨b, o + (i * m + j), none⟩) h4).trans h5⟩
end Go.Proofs.YtjdamlmoegippaaDoor.dk
namespace Go.Proofs.YtjdamlmoegippaaDoor.dk
open Go.RowKit
theorem alloc_setRow (w : World) (A B : Array Value) (t : TypeId) : (w.alloc (.cells A t)).setRow w.heap.size B = w.alloc (.cells B t) := by
  cases w with
  | mk heap tape drawn os output =>
    simp only [World.setRow, World.alloc]
    congr 1
    apply Array.ext_getElem?
    intro i
    rw [Array.getElem?_modify]
    by_cases h : i = heap.size
    · subst h; simp
    · simp [Array.getElem?_push, h, Ne.symm h]
/-- A copy of a row. -/
def CloneP (w : World) (N : Nat) (f : Nat → Nat) (e : Ending) (w' : World) : Prop :=
  ∃ g mb wb, e = .returned (.pointer (some ⟨g, 0, none⟩)) ∧ BR w' g N mb wb f ∧ w.heap.size ≤ g ∧ w.heap.size ≤ mb ∧ w.heap.size ≤ wb ∧ Below w.heap.size w w'
theorem MapV.copy {P : Program} {k : TypeId} {w w' : World} {b b' s : Nat} {f : Lit → Option Value} (h : MapV P k w b s f) (hb : w'.heap[b']? = w.heap[b]?) : MapV P k w' b' s f := by
  obtain ⟨D, ⟨es, clock, h1, r⟩, h2⟩ := h
  exact ⟨D, ⟨es, clock, hb.trans h1, r⟩, h2⟩
theorem three_allocs (w : World) (a b c : Obj) : (((w.alloc a).alloc b).alloc c).heap[w.heap.size]? = some a ∧ (((w.alloc a).alloc b).alloc c).heap[w.heap.size + 1]? = some b ∧ (((w.alloc a).alloc b).alloc c).heap[w.heap.size + 2]? = some c := by
  have h3 := heap_alloc_new ((w.alloc a).alloc b) c
  have h2 := heap_alloc_new (w.alloc a) b
  have h1 := heap_alloc_new w a
  refine ⟨?_, ?_, by simpa using h3⟩
  · rw [Below.heap_alloc _ _ _ (by simp; omega), Below.heap_alloc _ _ _ (by simp)]; exact h1
  · rw [Below.heap_alloc _ _ _ (by simp)]; simpa using h2
end Go.Proofs.YtjdamlmoegippaaDoor.dk
namespace Go.Proofs.YtjdamlmoegippaaDoor.dk
open Go.RowKit
/-- A slice of n things of sz cells each, which lie at a place in a block that nobody may not write. -/
def Rw (w : World) (e sz : Nat) (v : Value) (n : Nat) (xs : List Value) : Prop :=
  xs.length = n * sz ∧ (∀ u ∈ xs, u.oneCell' = true) ∧ ((v = .slice none 0 0 ∧ n = 0) ∨
    ∃ b o cap cs, v = .slice (some ⟨b, o, none⟩) n cap ∧ w.heap[b]? = some (.cells cs e (0, 0)) ∧ o + cap * sz ≤ cs.size ∧ n ≤ cap ∧ cap ≤ maxLen ∧ ∀ j u, xs[j]? = some u → cs[o + j]? = some u)

section
variable {w w' : World} {e sz n : Nat} {v : Value} {xs : List Value}
theorem Rw.nil (w : World) (e sz : Nat) : Rw w e sz (.slice none 0 0) 0 [] := ⟨by simp, by simp, .inl ⟨rfl, rfl⟩⟩
theorem Rw.lt (h : Rw w e sz v n xs) : ∀ k, v.ownBlock = some k → k < w.heap.size := by
  intro k hk
  rcases h.2.2 with ⟨rfl, _⟩ | ⟨b, o, cap, cs, rfl, hg, _⟩
  · simp [Value.ownBlock] at hk
  · simp [Value.ownBlock] at hk
    subst hk
    exact (Array.getElem?_eq_some_iff.1 hg).1
theorem Rw.form (h : Rw w e sz v n xs) : ∃ x c, v = .slice x n c ∧ n ≤ c ∧ c ≤ maxLen := by
  rcases h.2.2 with ⟨rfl, rfl⟩ | ⟨b, o, cap, cs, rfl, _, _, h1, h2, _⟩
  · exact ⟨_, _, rfl, Nat.le_refl _, by simp [maxLen]⟩
  · exact ⟨_, _, rfl, h1, h2⟩
theorem Rw.mods {S : Nat → Prop} (h : Rw w e sz v n xs) (hm : Mods S w w') (hS : ∀ k, v.ownBlock = some k → ¬ S k) : Rw w' e sz v n xs := by
  refine ⟨h.1, h.2.1, ?_⟩
  rcases h.2.2 with h1 | ⟨b, o, cap, cs, rfl, hg, r⟩
  · exact .inl h1
  · exact .inr ⟨b, o, cap, cs, rfl, (hm.block b (Array.getElem?_eq_some_iff.1 hg).1 (hS b rfl)).trans hg, r⟩
theorem Rw.ty {g : Nat} {t : TypeId} {cs : Array Value} {fr : Nat × Nat} (h : Rw w e sz v n xs) (hg : w.heap[g]? = some (.cells cs t fr)) (hne : e ≠ t) : v.ownBlock ≠ some g := by
  rcases h.2.2 with ⟨rfl, _⟩ | ⟨b, o, cap, cs', rfl, hb, _⟩
  · simp [Value.ownBlock]
  · intro he
    have : b = g := by simpa [Value.ownBlock] using he
    subst this
    rw [hb] at hg
    injection hg with hg
    injection hg with _ ht
    exact hne ht
theorem Rw.of_own {base : Nat} (h : w.ownsRow base e sz v n xs) (h1 : ∀ u ∈ xs, u.oneCell' = true) : Rw w e sz v n xs := by
  refine ⟨h.1, h1, ?_⟩
  rcases h.2 with h | ⟨g, cap, cur, rfl, _, hg, hn, hc, hs, ht⟩
  · exact .inl h
  · refine .inr ⟨g, 0, cap, cur, rfl, hg, by omega, hn, hc, fun j u hj => ?_⟩
    have hjl : j < n * sz := by have := (List.getElem?_eq_some_iff.1 hj).1; rw [h.1] at this; exact this
    rw [← ht, List.getElem?_take_of_lt hjl] at hj
    rw [Nat.zero_add]
    simpa using hj
/-- A cell. -/
theorem Rw.cell {x : Option Addr} {c j : Nat} {u : Value} (h : Rw w e sz (.slice x n c) n xs) (hj : xs[j]? = some u) : ∃ b o, x = some ⟨b, o, none⟩ ∧ w.cell? ⟨b, o + j, none⟩ = some u ∧ w.frozen? ⟨b, o + j, none⟩ = false := by
  obtain ⟨hl, _, ⟨h1, h2⟩ | ⟨b, o, cap, cs, h1, hg, _, _, _, hc⟩⟩ := h
  · subst h2
    rw [Nat.zero_mul] at hl
    rw [List.length_eq_zero_iff.1 hl] at hj
    simp at hj
  · simp only [Value.slice.injEq] at h1
    obtain ⟨rfl, _, _⟩ := h1
    exact ⟨b, o, rfl, by rw [cell_of_row _ _ _ _ _ _ hg]; exact hc j u hj, by simp [World.frozen?, hg]⟩
/-- What stores make of a block. -/
theorem heap_setCells (g : Nat) : ∀ (vs : List Value) (o : Nat) (w : World) (cs : Array Value) (t : TypeId) (fr : Nat × Nat), w.heap[g]? = some (.cells cs t fr) →
    ∃ cs', (w.setCells g o vs).heap[g]? = some (.cells cs' t fr) ∧ cs'.size = cs.size ∧ (∀ i, i < o ∨ o + vs.length ≤ i → cs'[i]? = cs[i]?) ∧ (∀ j u, vs[j]? = some u → o + j < cs.size → cs'[o + j]? = some u)
  | [], o, w, cs, t, fr, h => ⟨cs, h, rfl, fun _ _ => rfl, fun j u hj => by simp at hj⟩
  | v :: r, o, w, cs, t, fr, h => by
    have h1 : (w.setCell ⟨g, o, none⟩ v).heap[g]? = some (.cells (cs.setIfInBounds o v) t fr) := by
      simp [World.setCell, Array.getElem?_modify, h]
    obtain ⟨cs', a1, a2, a3, a4⟩ := heap_setCells g r (o + 1) _ _ t fr h1
    refine ⟨cs', a1, by simpa using a2, fun i hi => ?_, fun j u hj hlt => ?_⟩
    · rw [a3 i (by simp at hi; omega)]
      exact Array.getElem?_setIfInBounds_ne (by simp at hi; omega)
    · rcases j with _ | j
      · simp at hj
        subst hj
        rw [Nat.add_zero, a3 o (by omega)]
        rw [Array.getElem?_setIfInBounds_self]
        simp; omega
      · have := a4 j u (by simpa using hj) (by simp; omega)
        rw [show o + (j + 1) = o + 1 + j by omega]
        exact this
/-- Stores beside what the row has leave it. -/
theorem Rw.sets {x : Option Addr} {c b o p : Nat} {vs : List Value} (h : Rw w e sz (.slice x n c) n xs) (hx : x = some ⟨b, o, none⟩) (hp : p + vs.length ≤ o ∨ o + n * sz ≤ p) : Rw (w.setCells b p vs) e sz (.slice x n c) n xs := by
  subst hx
  refine ⟨h.1, h.2.1, ?_⟩
  rcases h.2.2 with ⟨h1, _⟩ | ⟨b', o', cap, cs, h1, hg, h2, h3, h4, h5⟩
  · simp at h1
  · simp only [Value.slice.injEq, Option.some.injEq, Addr.mk.injEq] at h1
    obtain ⟨⟨rfl, rfl, _⟩, _, rfl⟩ := h1
    obtain ⟨cs', a1, a2, a3, _⟩ := heap_setCells b vs p w cs e (0, 0) hg
    refine .inr ⟨b, o, c, cs', rfl, a1, by omega, h3, h4, fun j u hj => ?_⟩
    have hjl : j < n * sz := by have := (List.getElem?_eq_some_iff.1 hj).1; rw [h.1] at this; exact this
    rw [a3 _ (by omega)]
    exact h5 j u hj
end

section
variable {P : Program} {w w' : World} {e sz n : Nat} {v : Value} {xs : List Value}
/-- One thing more. -/
theorem Rw.push {t : TypeId} {i : TypeInfo} {z : Value} {bytes : Nat} (ht : P.underlying t = some (.slice e)) (hi : P.info? e = some i) (hz : i.zero = some z)
    (hsize : i.size = sz) (hby : i.bytes = bytes) (hzs : z.cells.size = sz) (hsz : 0 < sz) (h : Rw w e sz v n xs)
    (ad : Addr) (m c : Nat) (news : List Value) (hl : news.length = m * sz) (hnews : ∀ j u, news[j]? = some u → w.cell? (ad.add j) = some u) (h1 : ∀ u ∈ news, u.oneCell' = true) (h63 : n + m ≤ maxLen) (hbytes : (n + m) * bytes ≤ 140737488355328) (_ : 0 < m) :
    ∃ v' w', (Builtin.append_ #[t, t] t #[v, .slice (some ad) m c]).run P w = .ok v' w' ∧ Rw w' e sz v' (n + m) (xs ++ news) ∧ Mods (fun k => v.ownBlock = some k) w w' ∧ (v'.ownBlock = v.ownBlock ∨ ∃ k, v'.ownBlock = some k ∧ w.heap.size ≤ k) := by
  have h1' : ∀ u ∈ xs ++ news, u.oneCell' = true := fun u hu => by
    rcases List.mem_append.1 hu with hu | hu
    · exact h.2.1 u hu
    · exact h1 u hu
  rcases h.2.2 with ⟨rfl, rfl⟩ | ⟨b, o, cap, cs, rfl, hg, h2, h3, h4, h5⟩
  · obtain rfl : xs = [] := List.eq_nil_of_length_eq_zero (by simpa using h.1)
    obtain ⟨v', w', hrun, r1, r2, _⟩ := run_append_own (P := P) w w.heap.size t t e i z sz bytes ht hi hz hsize hby hzs hsz (.slice none 0 0) 0 [] (World.ownsRow_nil w _ e sz) ad m c news hl hnews h1 h63 hbytes (Nat.le_refl _)
    refine ⟨v', w', hrun, Rw.of_own r1 h1', Mods.of_grown r2 |>.mono (fun b hb => by simp [Value.ownBlock] at hb), ?_⟩
    rcases r1.2 with ⟨rfl, _⟩ | ⟨g, cap, cur, rfl, hb, _⟩
    · exact .inl rfl
    · exact .inr ⟨g, rfl, hb⟩
  · have hold : ∀ j u, xs[j]? = some u → w.cell? ((⟨b, o, none⟩ : Addr).add j) = some u := fun j u hj => by
      rw [addr_add, cell_of_row _ _ _ _ _ _ hg]; exact h5 j u hj
    by_cases hroom : n + m ≤ cap
    · have hmul : (n + m) * sz ≤ cap * sz := Nat.mul_le_mul_right _ hroom
      rw [Nat.add_mul] at hmul
      have hr := run_append_room_cells (P := P) w t t e i ht hi b o n cap ad m c news (by rw [hl, hsize]) hnews h1 hroom
        (fun j hj => by rw [cell_of_row _ _ _ _ _ _ hg, hsize, Array.getElem?_eq_getElem (by omega)]; rfl) (fun j hj => by simp [World.frozen?, hg])
      obtain ⟨cs', a1, a2, a3, a4⟩ := heap_setCells b news (o + n * i.size) w cs e (0, 0) hg
      rw [hsize] at hr a1 a3 a4
      refine ⟨_, _, hr, ⟨by rw [List.length_append, h.1, hl, Nat.add_mul], h1', .inr ⟨b, o, cap, cs', rfl, a1, by omega, by omega, h4, fun j u hj => ?_⟩⟩, Mods.sets (S := fun k => (Value.slice (some ⟨b, o, none⟩) n cap).ownBlock = some k) b rfl _ _ _, .inl rfl⟩
      by_cases hjx : j < xs.length
      · rw [a3 _ (by have := h.1; omega)]
        rw [List.getElem?_append_left hjx] at hj
        exact h5 j u hj
      · rw [List.getElem?_append_right (by omega)] at hj
        have hjl := (List.getElem?_eq_some_iff.1 hj).1
        have := a4 (j - xs.length) u hj (by rw [h.1] at hjl hjx ⊢; omega)
        rw [← this]
        congr 1
        rw [h.1] at hjx ⊢; omega
    · obtain ⟨v', w', hr, ho, hgr⟩ := run_append_arg_grows (P := P) w t t e i z sz bytes ht hi hz hsize hby hzs hsz ⟨b, o, none⟩ n cap xs h.1 hold ad m c news hl hnews (by omega) h63 hbytes
      refine ⟨v', w', hr, Rw.of_own ho h1', (Mods.of_grown hgr).mono (fun b hb => by cases hb), ?_⟩
      rcases ho.2 with ⟨_, h0⟩ | ⟨g', cap', cur, rfl, hb', _⟩
      · omega
      · exact .inr ⟨g', rfl, hb'⟩
end
end Go.Proofs.YtjdamlmoegippaaDoor.dk
