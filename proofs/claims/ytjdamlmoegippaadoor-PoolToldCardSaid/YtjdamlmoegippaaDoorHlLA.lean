/-
  A log in memory: its map of rows of texts, as a list of texts in the order in which they came. No condition.
-/
import Derived.Test.YtjdamlmoegippaaDoorHlMV
namespace Go.Proofs.YtjdamlmoegippaaDoor.hl
open Go.RowKit
section
variable (h : List Int → List Int)
/-- The texts of one sum. -/
def ofSum (T : List (List Int)) (k : List Int) : List (List Int) := T.filter fun t => h t == k
/-- A text more, if it is new. -/
def addT (T : List (List Int)) (t : List Int) : List (List Int) := if t ∈ T then T else T ++ [t]
def clkR : List (List Int) → Option (List Int)
  | [] => none
  | t :: r => match clkR r with
    | some c => some c
    | none => if r.any (fun u => h u == h t) then some (h t) else none
/-- The sum of the first text that had the sum of one ahead of it. -/
def clk (T : List (List Int)) : Option (List Int) := clkR h T.reverse
theorem clk_snoc (T : List (List Int)) (t : List Int) : clk h (T ++ [t]) = match clk h T with
    | some c => some c
    | none => if T.any (fun u => h u == h t) then some (h t) else none := by
  unfold clk
  rw [List.reverse_append, List.reverse_singleton, List.singleton_append, clkR, List.any_reverse]
theorem clkR_some : ∀ {r : List (List Int)} {c : List Int}, clkR h r = some c → 2 ≤ (ofSum h r c).length
  | [], c, e => by cases e
  | t :: r, c, e => by
    rw [clkR] at e
    cases e1 : clkR h r with
    | some c' =>
      rw [e1] at e
      simp only [Option.some.injEq] at e
      subst e
      have := clkR_some e1
      unfold ofSum at *
      rw [List.filter_cons]
      split
      · rw [List.length_cons]; omega
      · exact this
    | none =>
      rw [e1] at e
      simp only at e
      split at e
      · rename_i ha
        simp only [Option.some.injEq] at e
        subst e
        obtain ⟨u, hu, e2⟩ := List.any_eq_true.1 ha
        unfold ofSum
        rw [List.filter_cons, if_pos (by simp), List.length_cons]
        have : 0 < (r.filter fun x => h x == h t).length := List.length_pos_of_mem (List.mem_filter.2 ⟨hu, e2⟩)
        omega
      · cases e
theorem clk_some {T : List (List Int)} {c : List Int} (e : clk h T = some c) : 2 ≤ (ofSum h T c).length := by
  have := clkR_some h e
  unfold ofSum at *
  rwa [List.filter_reverse, List.length_reverse] at this
theorem clkR_none : ∀ {r : List (List Int)}, clkR h r = none → ∀ a ∈ r, ∀ b ∈ r, h a = h b → a = b ∨ False
  | [], _, a, ha, _, _, _ => by cases ha
  | t :: r, e, a, ha, b, hb, hab => by
    rw [clkR] at e
    cases e1 : clkR h r with
    | some c' => rw [e1] at e; cases e
    | none =>
      rw [e1] at e
      simp only at e
      split at e
      · cases e
      · rename_i hn
        have no : ∀ u ∈ r, h u ≠ h t := fun u hu e2 => hn (List.any_eq_true.2 ⟨u, hu, by simp [e2]⟩)
        rcases List.mem_cons.1 ha with rfl | ha
        · rcases List.mem_cons.1 hb with rfl | hb
          · exact .inl rfl
          · exact (no b hb hab.symm).elim
        · rcases List.mem_cons.1 hb with rfl | hb
          · rename_i ha'
            exact (no a ha' hab).elim
          · exact clkR_none e1 a ha b hb hab
theorem clk_none {T : List (List Int)} (e : clk h T = none) {a b : List Int} (ha : a ∈ T) (hb : b ∈ T) (hab : h a = h b) : a = b := by
  rcases clkR_none h e a (List.mem_reverse.2 ha) b (List.mem_reverse.2 hb) hab with h | h
  · exact h
  · exact h.elim
theorem mem_ofSum {T : List (List Int)} {k t : List Int} : t ∈ ofSum h T k ↔ t ∈ T ∧ h t = k := by
  unfold ofSum
  rw [List.mem_filter]
  simp
theorem ofSum_snoc (T : List (List Int)) (t k : List Int) : ofSum h (T ++ [t]) k = if h t = k then ofSum h T k ++ [t] else ofSum h T k := by
  unfold ofSum
  rw [List.filter_append, List.filter_cons, List.filter_nil]
  by_cases e : h t = k
  · rw [if_pos (by simp [e]), if_pos e]
  · rw [if_neg (by simp [e]), if_neg e, List.append_nil]
theorem any_ofSum (T : List (List Int)) (t : List Int) : T.any (fun u => h u == h t) = decide (0 < (ofSum h T (h t)).length) := by
  rw [Bool.eq_iff_iff, List.any_eq_true, decide_eq_true_eq, List.length_pos_iff_exists_mem]
  constructor
  · rintro ⟨u, hu, e⟩
    exact ⟨u, (mem_ofSum h).2 ⟨hu, by simpa using e⟩⟩
  · rintro ⟨u, hu⟩
    obtain ⟨h1, h2⟩ := (mem_ofSum h).1 hu
    exact ⟨u, h1, by simp [h2]⟩
theorem addT_nodup {T : List (List Int)} (hT : T.Nodup) (t : List Int) : (addT T t).Nodup := by
  unfold addT
  split
  · exact hT
  · rename_i hm
    exact List.nodup_append.2 ⟨hT, by simp, fun a ha b hb e => by
      rw [List.mem_singleton] at hb
      subst hb
      subst e
      exact hm ha⟩
theorem addT_len (T : List (List Int)) (t : List Int) : (addT T t).length = T.length + if t ∈ T then 0 else 1 := by
  unfold addT
  split
  · rw [Nat.add_zero]
  · rw [List.length_append]; rfl
end
/-- The cells of a log. -/
def lcells (mb n : Nat) (cl : Bool) (C : List Int) : Array Value := (Value.map (some mb) :: .int .i64 (n : Int) :: .bool cl :: C.map (Value.int .u8)).toArray
/-- A text that a log holds. -/
def TX (S : Nat → Prop) (w : World) (u : Value) (t : List Int) : Prop := Sees w u t ∧ ∀ b, u.ownBlock = some b → S b ∧ ∃ cs, w.heap[b]? = some (.cells cs 5 (0, 0))
/-- The row of texts of one sum. -/
def Rw (S : Nat → Prop) (w : World) (o : Option Value) (R : List (List Int)) : Prop :=
  (o = none ∧ R = []) ∨ ∃ v xs, o = some v ∧ R ≠ [] ∧ w.ownsRow 0 37 1 v R.length xs ∧ (∀ b, v.ownBlock = some b → S b) ∧ ∀ (i : Nat) (t : List Int), R[i]? = some t → ∃ u, xs[i]? = some u ∧ TX S w u t
/-- A log at g that has the texts T, in blocks of S. -/
structure LGs (S : Nat → Prop) (w : World) (g : Nat) (T : List (List Int)) (mb s : Nat) (f : Lit → Option Value) (C : List Int) : Prop where
  head : w.heap[g]? = some (.cells (lcells mb T.length (clk sha T).isSome C) 108 (0, 0))
  map : MapV Tryd.prog 24 w mb s f
  rows : ∀ k, Byt k → k.length = 32 → Rw S w (f (kl k)) (ofSum sha T k)
  apart : ∀ j k, Byt j → j.length = 32 → Byt k → k.length = 32 → j ≠ k → ∀ v u, f (kl j) = some v → f (kl k) = some u → ∀ b, v.ownBlock = some b → u.ownBlock ≠ some b
  own : ∀ b, S b → 2 ≤ b ∧ b < w.heap.size
  sg : S g
  sm : S mb
  small : s ≤ T.length
  nodup : T.Nodup
  byt : ∀ t ∈ T, Byt t ∧ t.length ≤ 140737488351232
  clash : ∀ c, clk sha T = some c → C = c
  clen : C.length = 32 ∧ Byt C
def LG (S : Nat → Prop) (w : World) (g : Nat) (T : List (List Int)) : Prop := ∃ mb s f C, LGs S w g T mb s f C
theorem ownsRow_same {w w' : World} {base n : Nat} {e : TypeId} {v : Value} {xs : List Value} (h : w.ownsRow base e 1 v n xs) (hb : ∀ b, v.ownBlock = some b → w'.heap[b]? = w.heap[b]?) : w'.ownsRow base e 1 v n xs := by
  obtain ⟨hl, h | ⟨g, cap, cur, rfl, h1, h2, h3⟩⟩ := h
  · exact ⟨hl, .inl h⟩
  · exact ⟨hl, .inr ⟨g, cap, cur, rfl, h1, by rw [hb g rfl]; exact h2, h3⟩⟩
theorem Sees.same {w w' : World} {v : Value} {xs : List Int} (h : Sees w v xs) (hb : ∀ b, v.ownBlock = some b → w'.heap[b]? = w.heap[b]?) : Sees w' v xs := by
  obtain ⟨h1, h2 | h2 | ⟨b, o, cap, rfl, h3, h4, h5, h6⟩⟩ := h
  · exact ⟨h1, .inl h2⟩
  · exact ⟨h1, .inr (.inl h2)⟩
  · refine ⟨h1, .inr (.inr ⟨b, o, cap, rfl, h3, h4, h5, fun i hi => ?_⟩)⟩
    rw [← h6 i hi]
    simp only [World.cell?, hb b rfl]
theorem TX.same {S : Nat → Prop} {w w' : World} {u : Value} {t : List Int} (h : TX S w u t) (hb : ∀ b, S b → w'.heap[b]? = w.heap[b]?) : TX S w' u t :=
  ⟨h.1.same (fun b e => hb b (h.2 b e).1), fun b e => by
    obtain ⟨h1, cs, h2⟩ := h.2 b e
    exact ⟨h1, cs, by rw [hb b h1]; exact h2⟩⟩
theorem TX.wider {S S' : Nat → Prop} {w : World} {u : Value} {t : List Int} (h : TX S w u t) (hS : ∀ b, S b → S' b) : TX S' w u t := ⟨h.1, fun b e => ⟨hS b (h.2 b e).1, (h.2 b e).2⟩⟩
theorem Rw.same {S : Nat → Prop} {w w' : World} {o : Option Value} {R : List (List Int)} (h : Rw S w o R) (hb : ∀ b, S b → w'.heap[b]? = w.heap[b]?) : Rw S w' o R := by
  rcases h with h | ⟨v, xs, h1, h2, h3, h4, h5⟩
  · exact .inl h
  · refine .inr ⟨v, xs, h1, h2, ownsRow_same h3 (fun b e => hb b (h4 b e)), h4, fun i t hi => ?_⟩
    obtain ⟨u, e1, e2⟩ := h5 i t hi
    exact ⟨u, e1, e2.same hb⟩
theorem LGs.same {S : Nat → Prop} {w w' : World} {g mb s : Nat} {T : List (List Int)} {f : Lit → Option Value} {C : List Int} (h : LGs S w g T mb s f C) (hb : ∀ b, S b → w'.heap[b]? = w.heap[b]?) (hs : w.heap.size ≤ w'.heap.size) : LGs S w' g T mb s f C where
  head := by rw [hb g h.sg]; exact h.head
  map := h.map.same (hb mb h.sm)
  rows := fun k h1 h2 => (h.rows k h1 h2).same hb
  apart := h.apart
  own := fun b hS => ⟨(h.own b hS).1, Nat.lt_of_lt_of_le (h.own b hS).2 hs⟩
  sg := h.sg
  sm := h.sm
  small := h.small
  nodup := h.nodup
  byt := h.byt
  clash := h.clash
  clen := h.clen
theorem Rw.wider {S S' : Nat → Prop} {w : World} {o : Option Value} {R : List (List Int)} (h : Rw S w o R) (hS : ∀ b, S b → S' b) : Rw S' w o R := by
  rcases h with h | ⟨v, xs, h1, h2, h3, h4, h5⟩
  · exact .inl h
  · refine .inr ⟨v, xs, h1, h2, h3, fun b e => hS b (h4 b e), fun i t hi => ?_⟩
    obtain ⟨u, e1, e2⟩ := h5 i t hi
    exact ⟨u, e1, e2.wider hS⟩
theorem LGs.wider {S S' : Nat → Prop} {w : World} {g mb s : Nat} {T : List (List Int)} {f : Lit → Option Value} {C : List Int} (h : LGs S w g T mb s f C) (hS : ∀ b, S b → S' b) (ho : ∀ b, S' b → 2 ≤ b ∧ b < w.heap.size) : LGs S' w g T mb s f C where
  head := h.head
  map := h.map
  rows := fun k h1 h2 => (h.rows k h1 h2).wider hS
  apart := h.apart
  own := ho
  sg := hS g h.sg
  sm := hS mb h.sm
  small := h.small
  nodup := h.nodup
  byt := h.byt
  clash := h.clash
  clen := h.clen
theorem LG.mods {S Q : Nat → Prop} {w w' : World} {g : Nat} {T : List (List Int)} (h : LG S w g T) (hm : Mods Q w w') (hQ : ∀ b, S b → ¬ Q b) : LG S w' g T := by
  obtain ⟨mb, s, f, C, h⟩ := h
  exact ⟨mb, s, f, C, h.same (fun b hb => hm.block b (h.own b hb).2 (hQ b hb)) hm.size⟩
theorem LG.below {S : Nat → Prop} {w w' : World} {g : Nat} {T : List (List Int)} (h : LG S w g T) (hb : Below w.heap.size w w') : LG S w' g T :=
  h.mods (Q := fun _ => False) (Mods.of_below hb) (fun _ _ h => h)
theorem LG.own {S : Nat → Prop} {w : World} {g : Nat} {T : List (List Int)} (h : LG S w g T) : ∀ b, S b → 2 ≤ b ∧ b < w.heap.size := by obtain ⟨mb, s, f, C, h⟩ := h; exact h.own
theorem Glob.mods {S : Nat → Prop} {w w' : World} (h : Glob w) (hm : Mods S w w') (hS : ∀ b, S b → 2 ≤ b) : Glob w' := by
  have h1 := h.lt
  have e : ∀ b, b < 2 → w'.heap[b]? = w.heap[b]? := fun b hb => hm.block b (by omega) (fun hs => by have := hS b hs; omega)
  exact ⟨fun j hj => by rw [← h.1 j hj]; simp only [World.cell?, e 0 (by omega)], fun j hj => by rw [← h.2 j hj]; simp only [World.cell?, e 1 (by omega)]⟩
end Go.Proofs.YtjdamlmoegippaaDoor.hl
