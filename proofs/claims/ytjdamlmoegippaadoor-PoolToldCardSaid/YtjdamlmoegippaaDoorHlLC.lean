/-
  Contract of hashlog.keep: a text that is new stands behind those of its sum. Condition: the log lies in memory as a list of texts.
-/
import Derived.Test.YtjdamlmoegippaaDoorHlLP
import Derived.Maps.AppendAt
import Derived.Deep.RegionHeld3
namespace Go.Proofs.YtjdamlmoegippaaDoor.hl
open Go.RowKit
theorem info23 : (Tryd.prog.info? 37).map (fun i => (i.zero, i.size, i.bytes)) = some (some (.slice none 0 0), 1, 24) := by kernel_rfl
/-- A text of the call's own. -/
def OU (z : Nat) (W : World) (u : Value) (b : List Int) : Prop := Sees W u b ∧ ∀ q, u.ownBlock = some q → (z ≤ q ∧ q < W.heap.size) ∧ ∃ cs, W.heap[q]? = some (.cells cs 5 (0, 0))
theorem ou_own {z : Nat} {W : World} {u : Value} {b : List Int} {base : Nat} (h : Own W base u b) (hz : z ≤ base) : OU z W u b := by
  refine ⟨h.sees, fun q e => ?_⟩
  rcases h.2.2 with ⟨rfl, _⟩ | ⟨g, cap, cur, rfl, hb, hg, _⟩
  · simp [Value.ownBlock] at e
  · simp only [Value.ownBlock, Option.some.injEq] at e
    subst e
    exact ⟨⟨by omega, blk_lt hg⟩, cur, hg⟩
theorem OU.step {z : Nat} {W W' : World} {u : Value} {b : List Int} (h : OU z W u b) (hb : ∀ (q : Nat) (cs : Array Value) (t : TypeId), W.heap[q]? = some (Obj.cells cs t (0, 0)) → t = 5 → W'.heap[q]? = W.heap[q]?) (hs : W.heap.size ≤ W'.heap.size) : OU z W' u b :=
  ⟨h.1.same (fun q e => by obtain ⟨_, cs, e2⟩ := h.2 q e; exact hb q cs 5 e2 rfl), fun q e => by
    obtain ⟨h1, cs, e2⟩ := h.2 q e
    exact ⟨⟨h1.1, by omega⟩, cs, by rw [hb q cs 5 e2 rfl]; exact e2⟩⟩
/-- What an entry promises. -/
def EN (mb s : Nat) (f : Lit → Option Value) (k : List Int) (st : Nat) (W : World) : Prop :=
  ∀ (w2 : World) (val : Value), w2.heap[mb]? = W.heap[mb]? → ∃ w3, (Instr.entryStore 106 (.map (some mb)) (goInt st) val).run Tryd.prog w2 = .ok () w3 ∧ MapV Tryd.prog 24 w3 mb (if (f (kl k)).isSome then s else s + 1) (updL f (kl k) (some val)) ∧ Mods (fun j => j = mb) w2 w3 ∧ w3.heap.size = w2.heap.size
theorem step_entry {P : Program} {ops : Array Oper} {o : Oper} {a : Act} {w : World} {K : Act → World → Prop} {Q : Exit → Act → World → Prop} {E : Prop} (hgd : o.guard = none) (T : TypeId) (m x : Operand)
    (ho : o.op = .mapEntry T m x) {v u r : Value} {w' : World} (hm : a.eval m = v) (hx : a.eval x = u) (hr : (Instr.mapEntry T v u).run P w = .ok r w')
    (hK : K (a.put o.dst r) w') : if Region.wanted o (yielded ops a.tmps) = true then Oper.wp P o a w K Q else E := by
  have hw : Region.wanted o (yielded ops a.tmps) = true := by simp [Region.wanted, hgd]
  rw [if_pos hw]
  unfold Oper.wp
  simp [execOp, ho, hm, hx, hr, Result.andThen]
  exact hK
theorem step_estore {P : Program} {ops : Array Oper} {o : Oper} {a : Act} {w : World} {K : Act → World → Prop} {Q : Exit → Act → World → Prop} {E : Prop} (hgd : o.guard = none) (T : TypeId) (m s x : Operand)
    (ho : o.op = .entryStore T m s x) {v u r : Value} {w' : World} (hm : a.eval m = v) (hs : a.eval s = r) (hx : a.eval x = u) (hr : (Instr.entryStore T v r u).run P w = .ok () w')
    (hK : K (a.put o.dst undef) w') : if Region.wanted o (yielded ops a.tmps) = true then Oper.wp P o a w K Q else E := by
  have hw : Region.wanted o (yielded ops a.tmps) = true := by simp [Region.wanted, hgd]
  rw [if_pos hw]
  unfold Oper.wp
  simp [execOp, ho, hm, hs, hx, hr, Result.andThen]
  exact hK
theorem step_appR {P : Program} {ops : Array Oper} {o : Oper} {a : Act} {w : World} {K : Act → World → Prop} {Q : Exit → Act → World → Prop} {E : Prop} (hgd : o.guard = none) (T : TypeId) (s x : Operand)
    (ho : o.op = .call { callee := .builtin .append, args := #[s, x], argTypes := #[T, T] }) (hty : o.type = T) {v u v' : Value} {w' : World} (hs : a.eval s = v) (hx : a.eval x = u) (hr : (Builtin.append_ #[T, T] T #[v, u]).run P w = .ok v' w')
    (hK : K (a.put o.dst v') w') : if Region.wanted o (yielded ops a.tmps) = true then Oper.wp P o a w K Q else E := by
  have hw : Region.wanted o (yielded ops a.tmps) = true := by simp [Region.wanted, hgd]
  rw [if_pos hw]
  unfold Oper.wp
  simp [execOp, ho, hty, resolve, invoke, builtin, hs, hx, hr, Result.andThen]
  exact hK
/-- What the row's end makes of the world. -/
def Fin (X : World) (mb s n0 : Nat) (f : Lit → Option Value) (k b : List Int) (V0 u : Value) (xs : List Value) (v' : Value) (W8 : World) : Prop :=
  MapV Tryd.prog 24 W8 mb (if (f (kl k)).isSome then s else s + 1) (updL f (kl k) (some v')) ∧ W8.ownsRow 0 37 1 v' (n0 + 1) (xs ++ [u]) ∧ (v'.ownBlock = V0.ownBlock ∨ ∃ q, v'.ownBlock = some q ∧ X.heap.size ≤ q ∧ q < W8.heap.size) ∧
    OU X.heap.size W8 u b ∧ Mods (fun q => q = mb ∨ V0.ownBlock = some q) X W8
theorem tail_fin {X W : World} {mb s n0 q st : Nat} {f : Lit → Option Value} {k b : List Int} {V0 u : Value} {xs : List Value} (hY : Mods (fun j => j = mb) X W) (hX : X.ownsRow 0 37 1 V0 n0 xs) (hm : ∃ es c, X.heap[mb]? = some (.map es c)) (hn : n0 ≤ 1000000)
    (hmW : ∃ es c, W.heap[mb]? = some (.map es c)) (ho : OU X.heap.size W u b) (hu1 : ∃ x l c, u = .slice x l c) (hq : W.heap[q]? = some (.cells #[u] 37 (0, 0))) (he : EN mb s f k st W) :
    ∃ v' W7, (Builtin.append_ #[55, 55] 55 #[V0, .slice (some ⟨q, 0, none⟩) 1 1]).run Tryd.prog W = .ok v' W7 ∧ (∀ j, V0.ownBlock ≠ some j → j < W.heap.size → W7.heap[j]? = W.heap[j]?) ∧ ∃ W8, (Instr.entryStore 106 (.map (some mb)) (goInt st) v').run Tryd.prog W7 = .ok () W8 ∧ Mods (fun j => j = mb) W7 W8 ∧ Fin X mb s n0 f k b V0 u xs v' W8 := by
  have vmb : V0.ownBlock ≠ some mb := fun e => by
    obtain ⟨_, ⟨rfl, _⟩ | ⟨g, cap, cur, rfl, _, hg, _⟩⟩ := hX
    · simp [Value.ownBlock] at e
    · simp only [Value.ownBlock, Option.some.injEq] at e
      subst e
      obtain ⟨es, c, h⟩ := hm
      rw [h] at hg
      cases hg
  have vlt : ∀ j, V0.ownBlock = some j → j < X.heap.size ∧ ∃ cs, X.heap[j]? = some (.cells cs 37 (0, 0)) := fun j e => by
    obtain ⟨_, ⟨rfl, _⟩ | ⟨g, cap, cur, rfl, _, hg, _⟩⟩ := hX
    · simp [Value.ownBlock] at e
    · simp only [Value.ownBlock, Option.some.injEq] at e
      subst e
      exact ⟨blk_lt hg, cur, hg⟩
  have rW : W.ownsRow 0 37 1 V0 n0 xs := ownsRow_same hX (fun j e => hY.block j (vlt j e).1 (fun e2 => vmb (by rw [e, e2])))
  obtain ⟨i, hi, hz0, hz1, hz2⟩ := info_parts info23
  obtain ⟨x, l, c, rfl⟩ := hu1
  have cq : W.cell? ⟨q, 0, none⟩ = some (.slice x l c) := (cell_of_row _ _ 0 _ _ _ hq).trans rfl
  obtain ⟨v', W7, hr, hown, hg, _, hat⟩ := run_append_own_at (P := Tryd.prog) W 0 55 55 37 i _ 1 24 Tryd.underlying55 hi hz0 hz1 hz2 rfl (by decide) V0 n0 xs rW ⟨q, 0, none⟩ 1 1 [.slice x l c] rfl (fun j u hj => by
    match j, hj with
    | 0, hj =>
      simp at hj
      subst hj
      rw [addr_add]
      exact cq) (by simp [Value.oneCell']) (by unfold maxLen; omega) (by omega) (Nat.zero_le _)
  have g7 : ∀ j, V0.ownBlock ≠ some j → j < W.heap.size → W7.heap[j]? = W.heap[j]? := fun j h1 h2 => hg.block j h2 (fun e => h1 e.symm)
  have mlt : mb < W.heap.size := by obtain ⟨es, c, h⟩ := hmW; exact blk_lt h
  obtain ⟨W8, h1, h2, h3, h4⟩ := he W7 v' (g7 mb vmb mlt)
  have m7 : ∃ es c, W7.heap[mb]? = some (.map es c) := by
    obtain ⟨es, c, h⟩ := hmW
    exact ⟨es, c, by rw [g7 mb vmb mlt]; exact h⟩
  have cells8 : ∀ (j : Nat) (cs : Array Value) (t : TypeId), W7.heap[j]? = some (.cells cs t (0, 0)) → W8.heap[j]? = W7.heap[j]? := fun j cs t e => h3.block j (blk_lt e) (fun e2 => by
    obtain ⟨es, c, h⟩ := m7
    have e2' : j = mb := e2
    rw [← e2', e] at h
    cases h)
  refine ⟨v', W7, hr, g7, W8, h1, h3, h2, ?_, ?_, ?_, ?_⟩
  · obtain ⟨e1, ⟨rfl, e2⟩ | ⟨g, cap, cur, rfl, e2, e3, e4⟩⟩ := hown
    · exact ⟨e1, .inl ⟨rfl, e2⟩⟩
    · exact ⟨e1, .inr ⟨g, cap, cur, rfl, e2, by rw [cells8 g cur 37 e3]; exact e3, e4⟩⟩
  · rcases hat with e | e
    · exact .inl e
    · refine .inr ⟨_, e, hY.size, ?_⟩
      obtain ⟨_, ⟨rfl, _⟩ | ⟨g, cap, cur, rfl, _, e3, _⟩⟩ := hown
      · simp [Value.ownBlock] at e
      · simp only [Value.ownBlock, Option.some.injEq] at e
        subst e
        have := blk_lt e3
        omega
  · refine OU.step (ho.step (W' := W7) (fun j cs t e ht => g7 j (fun e2 => ?_) (blk_lt e)) hg.size) (fun j cs t e ht => cells8 j cs t e) (by omega)
    obtain ⟨h5, cs2, h6⟩ := vlt j e2
    have e7 := hY.block j h5 (fun e3 => by
      have e3' : j = mb := e3
      obtain ⟨es, c, h⟩ := hm
      rw [← e3', h6] at h
      cases h)
    rw [e7, h6] at e
    simp only [Option.some.injEq, Obj.cells.injEq] at e
    rw [ht] at e
    exact absurd e.2.1 (by decide)
  · have a1 : Mods (fun j => V0.ownBlock = some j) W W7 := ⟨hg.os, hg.tape, hg.output, hg.size, fun j hj hs => g7 j hs hj⟩
    exact ((hY.mono (T := fun q => q = mb ∨ V0.ownBlock = some q) (fun j e => .inl (.inl e))).trans a1 (fun j e => .inl (.inr e))).trans h3 (fun j e => .inl (.inl e))
theorem Sees.mods {Q : Nat → Prop} {w W : World} {v : Value} {xs : List Int} (h : Sees w v xs) (hm : Mods Q w W) (hq : ∀ q, xs ≠ [] → v.ownBlock = some q → ¬ Q q) : Sees W v xs := by
  obtain ⟨h1, h2 | h2 | ⟨b, o, cap, rfl, h3, h4, h5, h6⟩⟩ := h
  · exact ⟨h1, .inl h2⟩
  · exact ⟨h1, .inr (.inl h2)⟩
  · refine ⟨h1, .inr (.inr ⟨b, o, cap, rfl, h3, h4, h5, fun i hi => ?_⟩)⟩
    rw [← h6 i hi]
    have hb := hm.block b (World.block_lt_of_cell? w _ (h6 i hi)) (hq b h3 rfl)
    simp only [World.cell?, hb]
theorem Sees.lt {w : World} {v : Value} {xs : List Int} (h : Sees w v xs) : ∀ q, xs ≠ [] → v.ownBlock = some q → q < w.heap.size := fun q h0 e => by
  obtain ⟨_, ⟨_, h2⟩ | ⟨_, _, _, h2, _⟩ | ⟨b, o, cap, rfl, h3, _, _, h6⟩⟩ := h
  · exact (h0 h2).elim
  · exact (h0 h2).elim
  · simp only [Value.ownBlock, Option.some.injEq] at e
    subst e
    exact World.block_lt_of_cell? w _ (h6 0 (List.length_pos_iff.2 h3))
theorem lset1 (mb n : Nat) (cl : Bool) (C : List Int) : (lcells mb n cl C).setIfInBounds 1 (.int .i64 ((n : Int) + 1)) = lcells mb (n + 1) cl C := by
  unfold lcells
  rw [List.setIfInBounds_toArray]
  simp
/-- The row of a sum, as it is looked up. -/
theorem LGs.row {S : Nat → Prop} {w : World} {g mb s : Nat} {T : List (List Int)} {f : Lit → Option Value} {C k : List Int} (h : LGs S w g T mb s f C) (hk : Byt k) (lk : k.length = 32) :
    ∃ V xs, V = (f (kl k)).getD (.slice none 0 0) ∧ (∃ x c, V = .slice x (ofSum sha T k).length c) ∧ w.ownsRow 0 37 1 V (ofSum sha T k).length xs ∧ (∀ q, V.ownBlock = some q → f (kl k) = some V ∧ S q) ∧
      (∀ (i : Nat) (t : List Int), (ofSum sha T k)[i]? = some t → ∃ u, xs[i]? = some u ∧ TX S w u t) := by
  rcases h.rows k hk lk with ⟨e1, e2⟩ | ⟨v, xs, e1, e2, e3, e4, e5⟩
  · rw [e2]
    exact ⟨_, [], by rw [e1]; rfl, ⟨none, 0, rfl⟩, World.ownsRow_nil w 0 37 1, fun q e => by simp [Value.ownBlock] at e, fun i t hi => by simp at hi⟩
  · refine ⟨v, xs, by rw [e1]; rfl, ?_, e3, fun q e => ⟨e1, e4 q e⟩, e5⟩
    obtain ⟨_, ⟨rfl, e6⟩ | ⟨gb, cap, cur, rfl, _⟩⟩ := e3
    · exact (e2 (List.length_eq_zero_iff.1 e6)).elim
    · exact ⟨_, _, rfl⟩
def KeepP (S : Nat → Prop) (w : World) (g : Nat) (T : List (List Int)) (b : List Int) (e : Ending) (w' : World) : Prop :=
  e = .returned (.tuple #[]) ∧ LG (fun q => S q ∨ w.heap.size ≤ q ∧ q < w'.heap.size) w' g (addT T b) ∧ Mods S w w'
theorem keep_fin {S : Nat → Prop} {w X W8 : World} {g mb s : Nat} {T : List (List Int)} {f : Lit → Option Value} {C C' b k : List Int} {V0 v' u : Value} {xs : List Value}
    (h : LGs S w g T mb s f C) (hk : k = sha b) (hb : Byt b) (hlen : b.length ≤ 140737488351232) (hnew : b ∉ T)
    (hV : ∀ q, V0.ownBlock = some q → f (kl k) = some V0 ∧ S q) (hrow : w.ownsRow 0 37 1 V0 (ofSum sha T k).length xs)
    (hx : ∀ (i : Nat) (t : List Int), (ofSum sha T k)[i]? = some t → ∃ u, xs[i]? = some u ∧ TX S w u t)
    (hMX : Mods (fun q => q = g) w X) (hXg : X.heap[g]? = some (.cells (lcells mb T.length (clk sha (T ++ [b])).isSome C') 108 (0, 0)))
    (clash' : ∀ c, clk sha (T ++ [b]) = some c → C' = c) (clen' : C'.length = 32 ∧ Byt C')
    (hF : Fin X mb s (ofSum sha T k).length f k b V0 u xs v' W8) :
    KeepP S w g T b (.returned (.tuple #[])) (W8.setCell ⟨g, 1, none⟩ (.int .i64 ((T.length : Int) + 1))) := by
  obtain ⟨f1, f2, f3, f4, f5⟩ := hF
  have bk : Byt k := by rw [hk]; exact sha_byt b
  have lk : k.length = 32 := by rw [hk]; exact sha_len b hb
  have gm : g ≠ mb := fun e => by
    obtain ⟨es, c, e1⟩ := h.map.isMap
    rw [← e, h.head] at e1
    cases e1
  have hgl := blk_lt h.head
  have vg : V0.ownBlock ≠ some g := fun e => by
    have hr := h.rows k bk lk
    rw [(hV g e).1] at hr
    obtain ⟨_, cs, e1⟩ := hr.block e
    rw [h.head] at e1
    simp at e1
  have g8 : W8.heap[g]? = some (.cells (lcells mb T.length (clk sha (T ++ [b])).isSome C') 108 (0, 0)) := by
    rw [f5.block g (Nat.lt_of_lt_of_le hgl hMX.size) (fun e => by rcases e with e | e; exact gm e; exact vg e)]
    exact hXg
  obtain ⟨W9, hW9⟩ : ∃ W9, W9 = W8.setCell ⟨g, 1, none⟩ (.int .i64 ((T.length : Int) + 1)) := ⟨_, rfl⟩
  have o9 : ∀ q, q ≠ g → W9.heap[q]? = W8.heap[q]? := fun q hq => by rw [hW9]; exact heap_setCell_other _ _ _ _ (by simpa using hq)
  have s9 : W9.heap.size = W8.heap.size := by rw [hW9]; simp
  have g9 : W9.heap[g]? = some (.cells (lcells mb (T.length + 1) (clk sha (T ++ [b])).isSome C') 108 (0, 0)) := by
    rw [hW9, heap_setCell_same _ _ _ _ _ _ g8, lset1]
  have xl : xs.length = (ofSum sha T k).length := by have := hrow.1; omega
  have hwX : w.heap.size ≤ X.heap.size := hMX.size
  have hX8 : X.heap.size ≤ W8.heap.size := f5.size
  have ad : addT T b = T ++ [b] := by unfold addT; rw [if_neg hnew]
  rw [← hW9]
  refine ⟨rfl, ?_, ?_⟩
  · rw [ad]
    refine ⟨mb, _, _, C', lg_push h hk hb hlen hnew g9 (f1.same (o9 mb (fun e => gm e.symm))) (by split <;> omega) hx xl
      (ownsRow_same f2 (fun q e => o9 q (fun e2 => ?_))) (fun q e => ?_) ⟨f4.1.same (fun q e => o9 q (fun e2 => ?_)), fun q e => ?_⟩ (fun q hS hg hm hv => ?_) (by omega) clash' clen'⟩
    · subst e2
      obtain ⟨_, ⟨rfl, _⟩ | ⟨gb, cap, cur, rfl, _, e3, _⟩⟩ := f2
      · simp [Value.ownBlock] at e
      · simp only [Value.ownBlock, Option.some.injEq] at e
        subst e
        rw [g8] at e3
        simp at e3
    · rcases f3 with e1 | ⟨q', e1, e2, e3⟩
      · rw [e] at e1
        exact .inl ⟨V0, (hV q e1.symm).1, e1.symm⟩
      · rw [e] at e1
        obtain rfl := Option.some.inj e1
        exact .inr ⟨by omega, by omega⟩
    · subst e2
      obtain ⟨_, cs, e3⟩ := f4.2 q e
      rw [g8] at e3
      simp at e3
    · obtain ⟨e1, cs, e2⟩ := f4.2 q e
      refine ⟨⟨by omega, by omega⟩, cs, ?_⟩
      rw [o9 q (fun e3 => by subst e3; rw [g8] at e2; simp at e2)]
      exact e2
    · have hq := (h.own q hS).2
      rw [o9 q hg, f5.block q (by omega) (fun e => by
        rcases e with e | e
        · exact hm e
        · exact hv V0 (hV q e).1 e), hMX.block q hq hg]
  · have m1 : Mods S w X := hMX.mono (fun q e => .inl (by have e' : q = g := e; rw [e']; exact h.sg))
    have m2 : Mods S w W8 := m1.trans f5 (fun q e => by
      rcases e with e | e
      · exact .inl (by rw [e]; exact h.sm)
      · exact .inl (hV q e).2)
    rw [hW9]
    exact m2.trans (Mods.set (S := fun q => q = g) W8 ⟨g, 1, none⟩ _ rfl) (fun q e => .inl (by have e' : q = g := e; rw [e']; exact h.sg))
end Go.Proofs.YtjdamlmoegippaaDoor.hl
