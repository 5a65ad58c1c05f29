/-
  Slices of rows cut, and appended to rows of the call's own. Condition: the slices read as rows, and have room for them.
-/
import Derived.Test.YtnifaldgofmciaaNdP
import Derived.Lib.AppendZerosOnto
import Derived.Maps.AppendAt
import Derived.Laws.OwnMore
import Derived.OwnWalk
namespace Go.Proofs.Ytnifaldgofmciaa
open Go.RowKit
/-- A slice that ends ahead of its room. -/
def capOk (v : Value) : Prop := ∃ x n c, v = .slice x n c ∧ n ≤ c ∧ c ≤ 9223372036854775807
/-- A key's cell. -/
def key1 (k : Int) : List Value := [.int .u64 k]
theorem KS.es {w : World} {v : Value} {ks : List Int} (h : KS w v ks) : ES key1 1 w v ks := by
  obtain ⟨h1, h2, x, c, h3, h4⟩ := h
  refine ⟨h2, fun _ _ => rfl, x, c, h3, fun i y hi => ?_⟩
  have hl := (List.getElem?_eq_some_iff.1 hi).1
  obtain ⟨b, o, e1, e2, e3⟩ := h4 i hl
  refine ⟨b, o, e1, e2, fun j u hj => ?_⟩
  have hy : ks.getD i 0 = y := by simp [List.getD, hi]
  match j, hj with
  | 0, hj =>
    have hu : Value.int .u64 y = u := by simpa [key1] using hj
    rw [← hu, ← hy, Nat.mul_one, Nat.add_zero]
    exact e3
  | j + 1, hj => simp [key1] at hj
theorem ES.ks {w : World} {v : Value} {ks : List Int} (h : ES key1 1 w v ks) (hb : ∀ k ∈ ks, 0 ≤ k ∧ k ≤ 18446744073709551615) : KS w v ks := by
  obtain ⟨h1, _, x, c, h3, h4⟩ := h
  refine ⟨hb, h1, x, c, h3, fun i hi => ?_⟩
  obtain ⟨b, o, e1, e2, e3⟩ := h4 i _ (List.getElem?_eq_getElem hi)
  refine ⟨b, o, e1, e2, ?_⟩
  have := e3 0 (.int .u64 ks[i]) rfl
  rw [Nat.mul_one, Nat.add_zero] at this
  rw [this]
  simp [List.getD, hi]
section
variable {α : Type} {f : α → List Value} {e : Nat} {w : World} {xs : List α}
theorem ES.nil (c : Nat) : ES f e w (.slice none 0 c) ([] : List α) := ⟨by simp, by simp, none, c, rfl, fun i y hi => by simp at hi⟩
theorem ES.take {x : Option Addr} {n c k c' : Nat} (h : ES f e w (.slice x n c) xs) (hk : k ≤ n) : ES f e w (.slice (if c = 0 then x else x.map (·.add (0 * e))) k c') (xs.take k) := by
  obtain ⟨h1, h2, x', c2, h3, h4⟩ := h
  injection h3 with e1 e2 e3
  subst e1 e2
  have hl : (xs.take k).length = k := by rw [List.length_take]; omega
  refine ⟨by omega, fun y hy => h2 y (List.mem_of_mem_take hy), _, _, by rw [hl], fun i y hi => ?_⟩
  have hik : i < k := by have := (List.getElem?_eq_some_iff.1 hi).1; omega
  rw [List.getElem?_take_of_lt hik] at hi
  obtain ⟨b, o, rfl, e2, e3⟩ := h4 i y hi
  refine ⟨b, o, ?_, e2, e3⟩
  split
  · rfl
  · simp [add_plain]
theorem ES.drop {x : Option Addr} {n c k c' : Nat} (h : ES f e w (.slice x n c) xs) (hk : k ≤ n) (hn : n ≤ c) : ES f e w (.slice (if c = k then x else x.map (·.add (k * e))) (n - k) c') (xs.drop k) := by
  obtain ⟨h1, h2, x', c2, h3, h4⟩ := h
  injection h3 with e1 e2 e3
  subst e1 e2
  have hl : (xs.drop k).length = xs.length - k := by rw [List.length_drop]
  refine ⟨by omega, fun y hy => h2 y (List.mem_of_mem_drop hy), _, _, by rw [hl], fun i y hi => ?_⟩
  have hik : i < xs.length - k := by have := (List.getElem?_eq_some_iff.1 hi).1; omega
  rw [List.getElem?_drop] at hi
  obtain ⟨b, o, rfl, e2, e3⟩ := h4 (k + i) y hi
  refine ⟨b, o + k * e, ?_, e2, ?_⟩
  · rw [if_neg (by omega)]
    simp [add_plain]
  · rw [show o + k * e + i * e = o + (k + i) * e by rw [Nat.add_mul]; omega]
    exact e3
/-- The cells of rows, one behind the other. -/
theorem ES.flat {x : Option Addr} {n c : Nat} (h : ES f e w (.slice x n c) xs) (he : 0 < e) (a : Addr) (hx : x = some a) : ∀ (j : Nat) (u : Value), (xs.flatMap f)[j]? = some u → w.cell? (a.add j) = some u := by
  obtain ⟨h1, h2, x', c2, h3, h4⟩ := h
  injection h3 with e1 e2 e3
  subst e1 e2 hx
  intro j u hj
  have hfl : ∀ (l : List α), (∀ y ∈ l, (f y).length = e) → (l.flatMap f).length = l.length * e := fun l hl => by
    induction l with
    | nil => simp
    | cons y l ih => rw [List.flatMap_cons, List.length_append, ih (fun z hz => hl z (by simp [hz])), hl y (by simp), List.length_cons, Nat.add_mul]; omega
  have hjl : j < xs.length * e := by rw [← hfl xs h2]; exact (List.getElem?_eq_some_iff.1 hj).1
  have hq : j / e < xs.length := Nat.div_lt_of_lt_mul (by rw [Nat.mul_comm]; exact hjl)
  have hr : j % e < e := Nat.mod_lt _ he
  have hy : xs[j / e]? = some xs[j / e] := List.getElem?_eq_getElem hq
  obtain ⟨b, o, ha, e2, e3⟩ := h4 _ _ hy
  injection ha with ha
  subst ha
  have hlen : (f xs[j / e]).length = e := h2 _ (List.getElem_mem hq)
  have hc : (f xs[j / e])[j % e]? = some (f xs[j / e])[j % e] := List.getElem?_eq_getElem (by omega)
  have := flat_at f e xs h2 _ _ hy _ _ hc
  rw [Nat.mul_comm, Nat.div_add_mod, hj] at this
  injection this with this
  rw [add_plain, this]
  have := e3 _ _ hc
  rw [show o + j / e * e + j % e = o + j by rw [Nat.add_assoc, Nat.mul_comm, Nat.div_add_mod]] at this
  exact this
theorem flat_len (hf : ∀ x ∈ xs, (f x).length = e) : (xs.flatMap f).length = xs.length * e := by
  induction xs with
  | nil => simp
  | cons y l ih => rw [List.flatMap_cons, List.length_append, ih (fun z hz => hf z (by simp [hz])), hf y (by simp), List.length_cons, Nat.add_mul]; omega
end
theorem run_append_none' {P : Program} {w : World} (base : Nat) (t ty el : TypeId) (i : TypeInfo) (size : Nat) (ht : P.underlying t = some (.slice el)) (hi : P.info? el = some i)
    (v : Value) (n c : Nat) (xs : List Value) (hown : w.ownsRow base el size v n xs) :
    (Builtin.append_ #[t, t] ty #[v, .slice none 0 c]).run P w = .ok v w := by
  rcases hown.2 with ⟨rfl, rfl⟩ | ⟨g, cap, cur, rfl, _, _, hnc, _⟩
  · simp [Builtin.append_, run_underlying ht, sizeOf, typeInfo, hi, Builtin.lenOf, Builtin.firstCells]
  · simp [Builtin.append_, run_underlying ht, sizeOf, typeInfo, hi, Builtin.lenOf, Builtin.firstCells, hnc, storeCells]
theorem kept_own (w : World) (r : Option Nat) : w.grownBy w r := ⟨rfl, rfl, rfl, Nat.le_refl _, fun _ _ _ => rfl⟩
set_option maxRecDepth 100000 in
/-- Rows appended to rows of the call's own. -/
theorem appRows {α : Type} {f : α → List Value} {t el : TypeId} {size bytes : Nat} {z : Value} (ht : Try.prog.underlying t = some (.slice el)) (hinfo : (Try.prog.info? el).map (fun i => (i.zero, i.size, i.bytes)) = some (some z, size, bytes))
    (hzs : z.cells.size = size) (hsz : 0 < size) {w : World} {base : Nat} {v : Value} {n : Nat} {ys : List α} (hown : w.ownsRow base el size v n (ys.flatMap f)) {u : Value} {xs : List α} (hs : ES f size w u xs)
    (h1 : ∀ x ∈ xs, ∀ c ∈ f x, c.oneCell' = true) (hk : n + xs.length ≤ 1000) (hb : bytes ≤ 1024) (hbase : base ≤ w.heap.size) :
    ∃ v' w', (Builtin.append_ #[t, t] t #[v, u]).run Try.prog w = .ok v' w' ∧ w'.ownsRow base el size v' (n + xs.length) ((ys ++ xs).flatMap f) ∧ w.grownBy w' v.ownBlock := by
  obtain ⟨i, hi, hz0, hz1, hz2⟩ := info_parts hinfo
  obtain ⟨x, c, rfl⟩ := hs.len
  cases x with
  | none =>
    have h0 : xs = [] := by
      cases xs with
      | nil => rfl
      | cons y l =>
        obtain ⟨_, _, x', c', he, h4⟩ := hs
        obtain ⟨b, o, hx, _⟩ := h4 0 y rfl
        injection he with he
        rw [← he] at hx; cases hx
    subst h0
    refine ⟨v, w, run_append_none' base t t el i size ht hi v n c _ hown, by simpa using hown, kept_own _ _⟩
  | some a =>
    obtain ⟨v', w', hr, ho, hgr, _, hat⟩ := run_append_own_at (P := Try.prog) w base t t el i z size bytes ht hi hz0 hz1 hz2 hzs hsz v n _ hown a xs.length c (xs.flatMap f) (flat_len hs.2.1) (hs.flat hsz a rfl)
      (fun u hu => by obtain ⟨y, hy, h2⟩ := List.mem_flatMap.1 hu; exact h1 y hy u h2) (by unfold maxLen; omega) (Nat.le_trans (Nat.mul_le_mul hk hb) (by decide)) hbase
    exact ⟨v', w', hr, by rw [List.flatMap_append]; exact ho, hgr⟩
theorem capOk_own {w : World} {base el size n : Nat} {v : Value} {cs : List Value} (h : w.ownsRow base el size v n cs) : capOk v := by
  obtain ⟨_, ⟨rfl, rfl⟩ | ⟨g, cap, cur, rfl, _, _, hnc, hm, _⟩⟩ := h
  · exact ⟨_, _, _, rfl, Nat.le_refl _, by omega⟩
  · exact ⟨_, _, _, rfl, hnc, by unfold maxLen at hm; omega⟩
theorem wpList_appK {P : Program} (T : TypeId) {ops : Array Oper} {rest : List Oper} {o : Oper} {a : Act} {w : World} {Q : Exit → Act → World → Prop} (hgd : o.guard = none) (s x : Operand)
    (ho : o.op = .call { callee := .builtin .append, args := #[s, x], argTypes := #[T, T] }) (hty : o.type = T) {v u v' : Value} {w' : World} (hs : a.eval s = v) (hx : a.eval x = u)
    (hr : (Builtin.append_ #[T, T] T #[v, u]).run P w = .ok v' w') (h : wpList P ops Q rest (a.put o.dst v') w') : wpList P ops Q (o :: rest) a w := by
  refine wpList_plain hgd fun K hK => ?_
  unfold Oper.wp execOp
  simp only [ho, hty, resolve, invoke, builtin, Sem.run_bind, Sem.run_pure, Result.andThen_ok, List.map_toArray, List.map_cons, List.map_nil, hs, hx, hr]
  exact hK _ _ h
end Go.Proofs.Ytnifaldgofmciaa
