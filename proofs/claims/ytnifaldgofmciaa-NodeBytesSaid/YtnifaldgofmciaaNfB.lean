/-
  The document's nodes in memory; how the loop of the statements' As keeps them. Condition: the node reads as one.
-/
import Derived.Test.YtnifaldgofmciaaNfA
import Derived.Test.YtnifaldgofmciaaNeE
namespace Go.Proofs.Ytnifaldgofmciaa
open Go.RowKit
open oc (Byt Sees Own be nth)
/-- A part of a document's node: a key, the slice of its bytes, and these. -/
structure PR where
  k : Int
  u : Value
  b : List Int
/-- Its cells. -/
def pc (r : PR) : List Value := [.int .u64 r.k, r.u]
/-- What it tells. -/
def PR.two (r : PR) : Int × List Int := (r.k, r.b)
/-- A document's node. -/
structure DN where
  leaf : Bool
  l : List (Int × List Int)
/-- The slice v reads, in w, as parts. -/
def PS (w : World) (v : Value) (l : List (Int × List Int)) : Prop := ∃ rows : List PR, l = rows.map PR.two ∧ ES pc 2 w v rows ∧ capOk v ∧ ∀ r ∈ rows, Sees w r.u r.b ∧ 0 ≤ r.k ∧ r.k ≤ 18446744073709551615
/-- The value v reads, in w, as a document's node. -/
def DM (w : World) (v : Value) (x : DN) : Prop := ∃ L, v = .agg #[.bool x.leaf, L] ∧ PS w L x.l
theorem PS.below {w w' : World} {v : Value} {l : List (Int × List Int)} (h : PS w v l) (hb : Below w.heap.size w w') : PS w' v l := by
  obtain ⟨rows, h1, h2, h3, h4⟩ := h
  exact ⟨rows, h1, h2.below hb, h3, fun r hr => ⟨(h4 r hr).1.below hb, (h4 r hr).2⟩⟩
theorem DM.below {w w' : World} {v : Value} {x : DN} (h : DM w v x) (hb : Below w.heap.size w w') : DM w' v x := by
  obtain ⟨L, h1, h2⟩ := h
  exact ⟨L, h1, h2.below hb⟩
/-- The bytes behind the i-th key. -/
def bsN (n : NV) (i : Nat) : List Int := if n.leaf then n.vs.getD i [] else be 4 (n.qs.getD i (0, [])).1 ++ (n.qs.getD i (0, [])).2
/-- Has a node just something for each key? -/
def okN (n : NV) : Bool := if n.leaf then decide (n.vs.length = n.ks.length ∧ n.qs.length = 0) else decide (n.qs.length = n.ks.length ∧ n.vs.length = 0)
def parts (n : NV) : List (Int × List Int) := (List.range n.ks.length).map fun i => (n.ks.getD i 0, bsN n i)
/-- A node as the document's. -/
def asN (n : NV) : DN := ⟨n.leaf, if okN n = true then parts n else []⟩
theorem info61 : (Try.prog.info? 61).map (fun i => (i.zero, i.size, i.bytes)) = some (some (.agg #[.int .u64 0, .slice none 0 0]), 2, 32) := by kernel_rfl
theorem info32 : (Try.prog.info? 32).map (·.size) = some 2 := by kernel_rfl
set_option maxRecDepth 100000 in
theorem z32 (w : World) : (zeroValue 32).run Try.prog w = .ok (.agg #[.bool false, .slice none 0 0]) w := by kernel_rfl
set_option maxRecDepth 100000 in
theorem b32 (b : Bool) (w : World) : (Instr.build 32 #[(0, .bool b)]).run Try.prog w = .ok (.agg #[.bool b, .slice none 0 0]) w := by kernel_rfl
set_option maxRecDepth 100000 in
theorem z61 (w : World) : (zeroValue 61).run Try.prog w = .ok (.agg #[.int .u64 0, .slice none 0 0]) w := by kernel_rfl
set_option maxRecDepth 100000 in
theorem b61 (k : Int) (w : World) : (Instr.build 61 #[(0, .int .u64 k)]).run Try.prog w = .ok (.agg #[.int .u64 k, .slice none 0 0]) w := by kernel_rfl
theorem i61 (a b : Value) : (Try.prog.info? 61).map (·.size) = some (#[a, b] : Array Value).size := by
  rw [show (Try.prog.info? 61).map (·.size) = some 2 from by kernel_rfl]; rfl
theorem i32 (a b : Value) : (Try.prog.info? 32).map (·.size) = some (#[a, b] : Array Value).size := info32
set_option maxRecDepth 100000 in
theorem bs30 (k : Int) (x : Option Addr) (n c : Nat) (w : World) : (Instr.buildSlice 30 1 #[(0, .agg #[.int .u64 k, .slice x n c])]).run Try.prog w = .ok (.slice (some ⟨w.heap.size, 0, none⟩) 1 1) (w.alloc (.cells #[.int .u64 k, .slice x n c] 61)) := by kernel_rfl
/-- An append whose run is known, in a drawn region. -/
theorem step_apq {T : TypeId} {ops : Array Oper} {o : Oper} {a : Act} {w : World} {K : Act → World → Prop} {Q : Exit → Act → World → Prop} {E : Prop} (hgd : o.guard = none) (s x : Operand)
    (ho : o.op = .call { callee := .builtin .append, args := #[s, x], argTypes := #[T, T] }) (hty : o.type = T) {v u v' : Value} {w' : World} (hs : a.eval s = v) (hx : a.eval x = u)
    (hr : (Builtin.append_ #[T, T] T #[v, u]).run Try.prog w = .ok v' w') (hK : K (a.put o.dst v') w') : if Region.wanted o (yielded ops a.tmps) = true then Oper.wp Try.prog o a w K Q else E := by
  have hw : Region.wanted o (yielded ops a.tmps) = true := by simp [Region.wanted, hgd]
  rw [if_pos hw]
  unfold Oper.wp execOp
  simp only [ho, hty, resolve, invoke, builtin, Sem.run_bind, Sem.run_pure, Result.andThen_ok, List.map_toArray, List.map_cons, List.map_nil, hs, hx, hr]
  exact hK
/-- The loop of As: so many parts have been laid. -/
def AsR (w : World) (A : Array Value) (lf : Bool) (l : List (Int × List Int)) (i : Nat) (wr : World) : Prop :=
  ∃ (rows : List PR) (x : Option Addr) (c : Nat), rows.map PR.two = l.take i ∧ wr.heap[w.heap.size]? = some (.cells A 26 (0, 0)) ∧ wr.heap[w.heap.size + 1]? = some (.cells #[.bool false, .slice none 0 0] 32 (0, 0)) ∧
    wr.heap[w.heap.size + 2]? = some (.cells #[.bool lf, .slice x i c] 32 (0, 0)) ∧ wr.ownsRow (w.heap.size + 3) 61 2 (.slice x i c) i (rows.flatMap pc) ∧
    (∀ r ∈ rows, Own wr (w.heap.size + 3) r.u r.b ∧ (0 ≤ r.k ∧ r.k ≤ 18446744073709551615) ∧ ((Value.slice x i c).ownBlock = none ∨ r.u.ownBlock ≠ (Value.slice x i c).ownBlock)) ∧ Below w.heap.size w wr
theorem own_slice {w : World} {base : Nat} {v : Value} {xs : List Int} (h : Own w base v xs) : ∃ x c, v = .slice x xs.length c := by
  obtain ⟨_, _, ⟨rfl, h0⟩ | ⟨g, cap, cur, rfl, _⟩⟩ := h
  · exact ⟨none, 0, by rw [h0]⟩
  · exact ⟨_, _, rfl⟩
/-- One part more: a world in which its bytes are laid; the part laid in a block; appended; stored. -/
theorem AsR.step {w : World} {A : Array Value} {lf : Bool} {l : List (Int × List Int)} {i : Nat} {wr W3 : World} {rows : List PR} {x : Option Addr} {c : Nat} {k : Int} {y : Option Addr} {d : Nat} {bs : List Int}
    (h1 : rows.map PR.two = l.take i) (g0 : wr.heap[w.heap.size]? = some (.cells A 26 (0, 0))) (g1 : wr.heap[w.heap.size + 1]? = some (.cells #[.bool false, .slice none 0 0] 32 (0, 0)))
    (g2 : wr.heap[w.heap.size + 2]? = some (.cells #[.bool lf, .slice x i c] 32 (0, 0))) (ho : wr.ownsRow (w.heap.size + 3) 61 2 (.slice x i c) i (rows.flatMap pc))
    (hr : ∀ r ∈ rows, Own wr (w.heap.size + 3) r.u r.b ∧ (0 ≤ r.k ∧ r.k ≤ 18446744073709551615) ∧ ((Value.slice x i c).ownBlock = none ∨ r.u.ownBlock ≠ (Value.slice x i c).ownBlock)) (hb : Below w.heap.size w wr)
    (h3 : Below wr.heap.size wr W3) (hu : Own W3 wr.heap.size (.slice y bs.length d) bs) (hk : 0 ≤ k ∧ k ≤ 18446744073709551615) (hl : l[i]? = some (k, bs)) (hi : i ≤ 100) :
    ∃ x' c' W5, (Builtin.append_ #[30, 30] 30 #[.slice x i c, .slice (some ⟨W3.heap.size, 0, none⟩) 1 1]).run Try.prog (W3.alloc (.cells #[.int .u64 k, .slice y bs.length d] 61)) = .ok (.slice x' (i + 1) c') W5 ∧
      W5.heap[w.heap.size + 2]? = some (.cells #[.bool lf, .slice x i c] 32 (0, 0)) ∧ AsR w A lf l (i + 1) (W5.setCell ⟨w.heap.size + 2, 1, none⟩ (.slice x' (i + 1) c')) := by
  have lt2 : w.heap.size + 2 < wr.heap.size := blk_lt g2
  have al : Below W3.heap.size W3 (W3.alloc (.cells #[.int .u64 k, .slice y bs.length d] 61)) := (Below.refl _ _).alloc (Nat.le_refl _) _
  have h4 : Below wr.heap.size wr (W3.alloc (.cells #[.int .u64 k, .slice y bs.length d] 61)) := h3.trans (al.mono h3.size)
  have s3 := h3.size
  obtain ⟨W4, hW4⟩ : ∃ W4, W4 = W3.alloc (.cells #[.int .u64 k, .slice y bs.length d] 61) := ⟨_, rfl⟩
  have gp : W4.heap[W3.heap.size]? = some (.cells #[.int .u64 k, .slice y bs.length d] 61 (0, 0)) := by rw [hW4]; exact heap_alloc_new W3 _
  rw [← hW4] at al h4 ⊢
  have s4 := h4.size
  have lt3 := blk_lt gp
  have grow4 : wr.grownBy W4 none := ⟨h4.os, h4.tape, h4.output, h4.size, fun k hk _ => h4.block k hk⟩
  have ho4 := ho.kept grow4 (by cases (Value.slice x i c).ownBlock <;> simp)
  have hu4 := hu.below al
  obtain ⟨v', W5, hr5, ho5, hg5, hat⟩ := appRow Try.underlying30 info61 rfl (by decide) ho4 W3.heap.size [.int .u64 k, .slice y bs.length d] rfl gp (by simp [Value.oneCell']) (by omega) (by decide) (by omega)
  have hv' : ∃ x' c', v' = .slice x' (i + 1) c' := by
    obtain ⟨_, ⟨_, h0⟩ | ⟨g, cap, cur, rfl, _⟩⟩ := ho5
    · omega
    · exact ⟨_, _, rfl⟩
  obtain ⟨x', c', rfl⟩ := hv'
  have lb : ∀ b, (Value.slice x i c).ownBlock = some b → w.heap.size + 3 ≤ b := fun b e => (ho.lt b e).1
  have keep : ∀ b, b < w.heap.size + 3 → W5.heap[b]? = wr.heap[b]? := fun b hlt => by
    rw [hg5.block b (by omega) (fun e => by have := lb b e.symm; omega)]
    exact h4.block b (by omega)
  refine ⟨x', c', W5, hr5, (keep _ (by omega)).trans g2, ?_⟩
  have g25 := (keep (w.heap.size + 2) (by omega)).trans g2
  have hgs : W5.grownBy (W5.setCell ⟨w.heap.size + 2, 1, none⟩ (.slice x' (i + 1) c')) (some (w.heap.size + 2)) := by
    rw [setCell_eq_setRow _ _ _ _ _ _ _ g25]
    exact oc.grownBy_setRow _ _ _
  have lb5 : ∀ b, (Value.slice x' (i + 1) c').ownBlock = some b → w.heap.size + 3 ≤ b ∧ b < W5.heap.size := fun b e => ho5.lt b e
  have b5 : Below w.heap.size w W5 := (hb.trans (h4.mono hb.size)).grown hg5 (by have := hb.size; omega) (fun b e => by have := lb b e; omega)
  have apart : ∀ u : Value, (∀ b, u.ownBlock = some b → b < W4.heap.size) → ((Value.slice x i c).ownBlock = none ∨ u.ownBlock ≠ (Value.slice x i c).ownBlock) → u.ownBlock ≠ none → u.ownBlock ≠ (Value.slice x' (i + 1) c').ownBlock := fun u hlt h hn e => by
    rcases hat with e2 | e2
    · rw [e2] at e
      rcases h with h | h
      · rw [h] at e; exact hn e
      · exact h e
    · rw [e2] at e
      have := hlt _ e
      omega
  have ownK : ∀ (r : PR), Own W4 (w.heap.size + 3) r.u r.b → ((Value.slice x i c).ownBlock = none ∨ r.u.ownBlock ≠ (Value.slice x i c).ownBlock) →
      Own (W5.setCell ⟨w.heap.size + 2, 1, none⟩ (.slice x' (i + 1) c')) (w.heap.size + 3) r.u r.b ∧ ((Value.slice x' (i + 1) c').ownBlock = none ∨ r.u.ownBlock ≠ (Value.slice x' (i + 1) c').ownBlock) := fun r h e => by
    have hlt := h.2.lt
    cases hn : r.u.ownBlock with
    | none =>
      refine ⟨(h.grown hg5 (.inl hn)).grown hgs (.inl hn), ?_⟩
      cases he : (Value.slice x' (i + 1) c').ownBlock with
      | none => exact .inl rfl
      | some b => exact .inr (by simp)
    | some b =>
      have hb4 := hlt b hn
      have e' : r.u.ownBlock ≠ (Value.slice x i c).ownBlock := by
        rcases e with e | e
        · rw [e, hn]; simp
        · exact e
      have h6 := apart r.u (fun b' h' => (hlt b' h').2) e (by rw [hn]; simp)
      refine ⟨(h.grown hg5 (.inr e')).grown hgs (.inr (by rw [hn]; intro e3; injection e3 with e3; omega)), .inr ?_⟩
      rw [← hn]
      exact h6
  have hu3 : Own W4 (w.heap.size + 3) (.slice y bs.length d) bs := by
    obtain ⟨hb1, hl1, h⟩ := hu4
    refine ⟨hb1, hl1, ?_⟩
    rcases h with h | ⟨g, cap', cur, e1, e2, e3⟩
    · exact .inl h
    · exact .inr ⟨g, cap', cur, e1, by omega, e3⟩
  have hun : (Value.slice x i c).ownBlock = none ∨ (Value.slice y bs.length d).ownBlock ≠ (Value.slice x i c).ownBlock := by
    cases he : (Value.slice x i c).ownBlock with
    | none => exact .inl rfl
    | some b => exact .inr (fun e => by have := (hu.2.lt b e).1; have := (ho.lt b he).2; omega)
  refine ⟨rows ++ [⟨k, .slice y bs.length d, bs⟩], x', c', ?_, ?_, ?_, ?_, ?_, ?_, ?_⟩
  · rw [List.map_append, h1, List.take_add_one, hl]
    rfl
  · rw [hgs.block _ (by have := hg5.size; omega) (by simp), keep _ (by omega)]; exact g0
  · rw [hgs.block _ (by have := hg5.size; omega) (by simp), keep _ (by omega)]; exact g1
  · exact heap_setCell_same _ _ _ _ _ _ g25
  · have := ho5.kept hgs (.inr (fun e => by have := (lb5 _ e).1; omega))
    simpa [pc] using this
  · intro r hm
    rcases List.mem_append.1 hm with hm | hm
    · obtain ⟨q1, q2, q3⟩ := hr r hm
      have q4 := ownK r (q1.below h4) q3
      exact ⟨q4.1, q2, q4.2⟩
    · have : r = ⟨k, .slice y bs.length d, bs⟩ := by simpa using hm
      subst this
      have q4 := ownK ⟨k, .slice y bs.length d, bs⟩ hu3 hun
      exact ⟨q4.1, hk, q4.2⟩
  · exact b5.grown hgs b5.size (fun b e => by cases e; omega)
theorem AsR.fin {w : World} {A : Array Value} {lf : Bool} {l : List (Int × List Int)} {i : Nat} {wr : World} (h : AsR w A lf l i wr) (hi : l.length = i) (hm : i ≤ 100) :
    ∃ O, O.size = 2 ∧ (O.all (·.oneCell') = true) ∧ wr.heap[w.heap.size + 2]? = some (.cells O 32 (0, 0)) ∧ wr.heap[w.heap.size + 1]? = some (.cells #[.bool false, .slice none 0 0] 32 (0, 0)) ∧
      DM (wr.setRow (w.heap.size + 1) O) (.agg O) ⟨lf, l⟩ ∧ Below w.heap.size w (wr.setRow (w.heap.size + 1) O) := by
  obtain ⟨rows, x, c, h1, g0, g1, g2, ho, hr, hb⟩ := h
  have hgs : wr.grownBy (wr.setRow (w.heap.size + 1) #[.bool lf, .slice x i c]) (some (w.heap.size + 1)) := oc.grownBy_setRow _ _ _
  rw [List.take_of_length_le (by omega)] at h1
  have hrl : rows.length = i := by rw [← hi, ← h1, List.length_map]
  refine ⟨#[.bool lf, .slice x i c], rfl, by simp [Value.oneCell'], g2, g1, ⟨.slice x i c, rfl, rows, h1.symm, ?_, capOk_own ho, fun r hm => ?_⟩, hb.grown hgs hb.size (fun b e => by cases e; omega)⟩
  · exact es_own (ho.kept hgs (.inr (fun e => by have := (ho.lt _ e).1; omega))) (fun _ _ => rfl) hrl (by omega)
  · obtain ⟨q1, q2, _⟩ := hr r hm
    refine ⟨(q1.grown hgs ?_).sees, q2⟩
    cases hn : r.u.ownBlock with
    | none => exact .inl rfl
    | some b => exact .inr (fun e => by injection e with e; have := (q1.2.lt b hn).1; omega)
end Go.Proofs.Ytnifaldgofmciaa
