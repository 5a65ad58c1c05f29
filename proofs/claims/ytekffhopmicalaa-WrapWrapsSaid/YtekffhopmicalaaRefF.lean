/-
  Plain lemmas: slices of slices of bytes that a call makes itself. No condition.
-/
import Derived.Test.YtekffhopmicalaaRefE
namespace Go.Proofs.Ytekffhopmicalaa
open Go.RowKit
theorem info28 : (Try.prog.info? 28).map (fun i => (i.zero, i.size, i.bytes)) = some (some (.slice none 0 0), 1, 24) := by kernel_rfl
/-- The call's own slices of four bytes each, in a block from base on. -/
def OwnV (w : World) (base : Nat) (v : Value) (xs : List Value) : Prop := (∀ x ∈ xs, ∃ q c, x = .slice q 4 c) ∧ w.ownsRow base 28 1 v xs.length xs
theorem ownv_nil (w : World) (base : Nat) : OwnV w base (.slice none 0 0) [] := ⟨fun _ h => by simp at h, World.ownsRow_nil w base 28 1⟩
theorem OwnV.grown {w w' : World} {base : Nat} {v : Value} {xs : List Value} {row : Option Nat} (h : OwnV w base v xs) (hg : w.grownBy w' row) (hne : v.ownBlock = none ∨ v.ownBlock ≠ row) : OwnV w' base v xs := ⟨h.1, h.2.kept hg hne⟩
theorem OwnV.below {w w' : World} {base : Nat} {v : Value} {xs : List Value} (h : OwnV w base v xs) (hb : Below w.heap.size w w') : OwnV w' base v xs :=
  h.grown (row := none) ⟨hb.os, hb.tape, hb.output, hb.size, fun k hk _ => hb.block k hk⟩ (by cases v.ownBlock <;> simp)
theorem OwnV.cells {w : World} {base : Nat} {v : Value} {xs : List Value} (h : OwnV w base v xs) (h0 : 0 < xs.length) :
    ∃ g cap, v = .slice (some ⟨g, 0, none⟩) xs.length cap ∧ base ≤ g ∧ g < w.heap.size ∧ xs.length ≤ cap ∧ cap ≤ maxLen ∧ ∀ i (hi : i < xs.length), w.cell? ⟨g, i, none⟩ = some xs[i] := by
  obtain ⟨_, hl, ⟨rfl, e0⟩ | ⟨g, cap, cur, rfl, hbg, hg, hn, hm, hs, ht⟩⟩ := h
  · omega
  · refine ⟨g, cap, rfl, hbg, blk_lt hg, hn, hm, fun i hi => ?_⟩
    rw [cell_of_row _ _ _ _ _ _ hg]
    have h1 : xs[i]? = some xs[i] := List.getElem?_eq_getElem hi
    have h2 : (cur.toList.take (xs.length * 1))[i]? = some xs[i] := by rw [ht]; exact h1
    rw [List.getElem?_take_of_lt (by omega)] at h2
    simpa using h2
/-- One slice more. -/
theorem OwnV.push {w : World} {base : Nat} {v : Value} {xs : List Value} (h : OwnV w base v xs) (hn : xs.length + 1 ≤ 1000) (hbase : base ≤ w.heap.size) (q : Option Addr) (c : Nat) :
    ∃ q' cap w', (Builtin.append_ #[32, 32] 32 #[v, .slice (some ⟨w.heap.size, 0, none⟩) 1 1]).run Try.prog (w.alloc (.cells #[.slice q 4 c] 28)) = .ok (.slice q' (xs.length + 1) cap) w' ∧
      OwnV w' base (.slice q' (xs.length + 1) cap) (xs ++ [.slice q 4 c]) ∧ Below base w w' ∧ (w.alloc (.cells #[.slice q 4 c] 28)).grownBy w' v.ownBlock := by
  obtain ⟨i, hi, hz0, hz1, hz2⟩ := info_parts info28
  have ho : OwnV (w.alloc (.cells #[.slice q 4 c] 28)) base v xs := h.below ((Below.refl _ _).alloc (Nat.le_refl _) _)
  have hm : xs.length + 1 ≤ maxLen := by unfold maxLen; omega
  obtain ⟨v', w', hr, hown, hg, hnil⟩ := run_append_own (P := Try.prog) (w.alloc (.cells #[.slice q 4 c] 28)) base 32 32 28 i _ 1 24 Try.underlying32 hi hz0 hz1 hz2 rfl (by decide) v xs.length _ ho.2 ⟨w.heap.size, 0, none⟩ 1 1 [.slice q 4 c] rfl (cell_one_new w _ _) (by simp [Value.oneCell']) hm (by omega) (by simp; omega)
  have hbel : Below base w w' := ((Below.refl base w).alloc hbase _).grown hg (by simp; omega) (fun j e => (World.ownsRow.lt ho.2 j e).1)
  have hown' : OwnV w' base v' (xs ++ [.slice q 4 c]) := by
    refine ⟨fun x hx => ?_, by rw [List.length_append]; exact hown⟩
    rcases List.mem_append.1 hx with hx | hx
    · exact h.1 x hx
    · simp at hx; exact ⟨q, c, hx⟩
  rcases hown.2 with ⟨rfl, h0⟩ | ⟨g, cap, cur, rfl, _⟩
  · omega
  · exact ⟨_, _, w', hr, hown', hbel, hg⟩
/-- An append to a slice of slices whose run is known, in a region that draws. -/
theorem step_appV {ops : Array Oper} {o : Oper} {a : Act} {w : World} {K : Act → World → Prop} {Q : Exit → Act → World → Prop} {E : Prop} (hgd : o.guard = none) (s x : Operand)
    (ho : o.op = .call { callee := .builtin .append, args := #[s, x], argTypes := #[32, 32] }) (hty : o.type = 32) {v u v' : Value} {w' : World} (hs : a.eval s = v) (hx : a.eval x = u) (hr : (Builtin.append_ #[32, 32] 32 #[v, u]).run Try.prog w = .ok v' w')
    (hK : K (a.put o.dst v') w') : if Region.wanted o (yielded ops a.tmps) = true then Oper.wp Try.prog o a w K Q else E := by
  have hw : Region.wanted o (yielded ops a.tmps) = true := by simp [Region.wanted, hgd]
  rw [if_pos hw]
  unfold Oper.wp
  simp [execOp, ho, hty, resolve, invoke, builtin, hs, hx, hr, Result.andThen]
  exact hK
theorem Own.setOther {w : World} {base g k : Nat} {v u : Value} {xs : List Nat} (h : Own w base v xs) (hg : g < base) : Own (w.setCell ⟨g, k, none⟩ u) base v xs := by
  obtain ⟨h1, h2, h3⟩ := h
  refine ⟨h1, h2, ?_⟩
  rcases h3 with h3 | ⟨g', cap, cur, e1, e2, e3, e4⟩
  · exact .inl h3
  · exact .inr ⟨g', cap, cur, e1, e2, by rw [heap_setCell_other _ _ _ _ (by simp; omega)]; exact e3, e4⟩
theorem OwnV.setOther {w : World} {base g k : Nat} {v u : Value} {xs : List Value} (h : OwnV w base v xs) (hg : g < base) : OwnV (w.setCell ⟨g, k, none⟩ u) base v xs := by
  obtain ⟨h1, h2, h3⟩ := h
  refine ⟨h1, h2, ?_⟩
  rcases h3 with h3 | ⟨g', cap, cur, e1, e2, e3, e4⟩
  · exact .inl h3
  · exact .inr ⟨g', cap, cur, e1, e2, by rw [heap_setCell_other _ _ _ _ (by simp; omega)]; exact e3, e4⟩
theorem cell_setOther {w : World} {g k b o : Nat} {u : Value} (h : b ≠ g) : (w.setCell ⟨g, k, none⟩ u).cell? ⟨b, o, none⟩ = w.cell? ⟨b, o, none⟩ := by
  have e := heap_setCell_other w ⟨g, k, none⟩ b u (by simpa using h)
  simp only [World.cell?, e]
/-- All blocks but one are as they were. -/
def Keep (W W' : World) (r : Nat) : Prop := ∀ k, k < W.heap.size → k ≠ r → W'.heap[k]? = W.heap[k]?
theorem Keep.cell {W W' : World} {r b o : Nat} {v : Value} (h : Keep W W' r) (hb : b ≠ r) (hc : W.cell? ⟨b, o, none⟩ = some v) : W'.cell? ⟨b, o, none⟩ = some v := by
  have e := h b (World.block_lt_of_cell? W _ hc) hb
  rw [← hc]
  simp only [World.cell?, e]
theorem Keep.of_grown {W W' : World} {r : Nat} (h : W.grownBy W' (some r)) : Keep W W' r := fun k hk hne => h.block k hk (by simpa using hne)
theorem Keep.of_below {W W' : World} (r : Nat) (h : Below W.heap.size W W') : Keep W W' r := fun k hk _ => h.block k hk
theorem Keep.trans {W W' W'' : World} {r : Nat} (h : Keep W W' r) (hs : W.heap.size ≤ W'.heap.size) (h2 : Keep W' W'' r) : Keep W W'' r := fun k hk hne => (h2 k (Nat.lt_of_lt_of_le hk hs) hne).trans (h k hk hne)
theorem Keep.set {W : World} (g k : Nat) (u : Value) : Keep W (W.setCell ⟨g, k, none⟩ u) g := fun j _ hne => heap_setCell_other _ _ _ _ (by simpa using hne)
/-- A word: its bytes, and where they lie: ahead of the call, or in a row of bytes. -/
def WI (z : Nat) (W : World) (v : Value) (l : List Nat) : Prop := Sees W v l ∧ ∀ k, v.ownBlock = some k → k < z ∨ ∃ cs, W.heap[k]? = some (.cells cs 5 (0, 0))
theorem Sees.keep {W W' : World} {r : Nat} {v : Value} {l : List Nat} (h : Sees W v l) (hk : Keep W W' r) (hr : ∀ k, v.ownBlock = some k → k ≠ r) : Sees W' v l := by
  obtain ⟨h1, h2 | h2 | ⟨b, o, cap, rfl, h3, h4, h5, h6⟩⟩ := h
  · exact ⟨h1, .inl h2⟩
  · exact ⟨h1, .inr (.inl h2)⟩
  · exact ⟨h1, .inr (.inr ⟨b, o, cap, rfl, h3, h4, h5, fun i hi => hk.cell (hr b rfl) (h6 i hi)⟩)⟩
theorem WI.keep {z : Nat} {W W' : World} {r : Nat} {v : Value} {l : List Nat} {cs : Array Value} {t : TypeId} (h : WI z W v l) (hk : Keep W W' r) (hz : z ≤ r) (hr : W.heap[r]? = some (.cells cs t (0, 0))) (ht : t ≠ 5) : WI z W' v l := by
  have hne : ∀ k, v.ownBlock = some k → k ≠ r := fun k hb e => by
    rcases h.2 k hb with h1 | ⟨c2, h1⟩
    · omega
    · rw [e, hr] at h1
      simp only [Option.some.injEq, Obj.cells.injEq] at h1
      exact ht h1.2.1
  refine ⟨h.1.keep hk hne, fun k hb => ?_⟩
  rcases h.2 k hb with h1 | ⟨c2, h1⟩
  · exact .inl h1
  · exact .inr ⟨c2, (hk k (blk_lt h1) (hne k hb)).trans h1⟩
theorem WI.below {z : Nat} {W W' : World} {v : Value} {l : List Nat} (h : WI z W v l) (hb : Below W.heap.size W W') : WI z W' v l :=
  ⟨h.1.below hb, fun k hk => by
    rcases h.2 k hk with h1 | ⟨c2, h1⟩
    · exact .inl h1
    · exact .inr ⟨c2, (hb.block _ (blk_lt h1)).trans h1⟩⟩
/-- Words behind an append to the slice that holds them. -/
theorem WI.append {z : Nat} {W W' : World} {base : Nat} {v vw : Value} {l : List Nat} {xs : List Value} (h : WI z W v l) (ho : OwnV W base vw xs) (hg : W.grownBy W' vw.ownBlock) (hz : z ≤ base) : WI z W' v l := by
  rcases ho.2.2 with ⟨rfl, _⟩ | ⟨g, cap, cur, rfl, hbg, hgg, _⟩
  · have hb : Below W.heap.size W W' := ⟨hg.os, hg.tape, hg.output, hg.size, fun k hk => hg.block k hk (by simp [Value.ownBlock])⟩
    exact h.below hb
  · exact h.keep (r := g) (Keep.of_grown hg) (Nat.le_trans hz hbg) hgg (by decide)
/-- The document's cipher while its words are laid: W2: the world ahead of that. -/
def NS (w W2 : World) (g : Nat) (vb vk : Value) (key : List Nat) (n : Nat) (q : Option Addr) (c : Nat) (xs : List Value) (W : World) : Prop :=
  W.heap[g]? = some (.cells #[.slice q n c, vb, vk] 34 (0, 0)) ∧ OwnV W W2.heap.size (.slice q n c) xs ∧ xs.length = n ∧
  (∀ i, i < n → ∃ x c', xs[i]? = some (.slice x 4 c') ∧ WI w.heap.size W (.slice x 4 c') (lat (wk key 60) i)) ∧
  (∀ k, k < W2.heap.size → k ≠ g → W.heap[k]? = W2.heap[k]?) ∧ Below w.heap.size w W ∧ W2.heap.size ≤ W.heap.size
theorem NS.below {w W2 W W' : World} {g : Nat} {vb vk : Value} {key : List Nat} {n : Nat} {q : Option Addr} {c : Nat} {xs : List Value} (h : NS w W2 g vb vk key n q c xs W) (hb : Below W.heap.size W W') : NS w W2 g vb vk key n q c xs W' := by
  obtain ⟨h1, h2, h3, h4, h5, h6, h7⟩ := h
  refine ⟨(hb.block _ (blk_lt h1)).trans h1, h2.below hb, h3, fun i hi => ?_, fun k hk hne => (hb.block _ (Nat.lt_of_lt_of_le hk h7)).trans (h5 k hk hne), h6.trans (hb.mono h6.size), Nat.le_trans h7 hb.size⟩
  obtain ⟨x, c', e1, e2⟩ := h4 i hi
  exact ⟨x, c', e1, e2.below hb⟩
theorem NS.push {w W2 W : World} {g : Nat} {vb vk : Value} {key : List Nat} {n : Nat} {q : Option Addr} {c : Nat} {xs : List Value} (h : NS w W2 g vb vk key n q c xs W) (hg : g < W2.heap.size) (hwg : w.heap.size ≤ g) (hn : n < 60) (x : Option Addr) (c' : Nat) (hx : WI w.heap.size W (.slice x 4 c') (lat (wk key 60) n)) :
    ∃ q' cp w1, (Builtin.append_ #[32, 32] 32 #[.slice q n c, .slice (some ⟨W.heap.size, 0, none⟩) 1 1]).run Try.prog (W.alloc (.cells #[.slice x 4 c'] 28)) = .ok (.slice q' (n + 1) cp) w1 ∧
      w1.heap[g]? = some (.cells #[.slice q n c, vb, vk] 34 (0, 0)) ∧ Below w.heap.size w w1 ∧ NS w W2 g vb vk key (n + 1) q' cp (xs ++ [.slice x 4 c']) (w1.setCell ⟨g, 0, none⟩ (.slice q' (n + 1) cp)) := by
  obtain ⟨h1, h2, rfl, h4, h5, h6, h7⟩ := h
  obtain ⟨q', cp, w1, hr, ho, hb, hgr⟩ := h2.push (by omega) h7 x c'
  have hal : Below W.heap.size W (W.alloc (.cells #[.slice x 4 c'] 28)) := (Below.refl _ _).alloc (Nat.le_refl _) _
  have hwb : w.heap.size ≤ W2.heap.size := by omega
  have hg1 : w1.heap[g]? = some (.cells #[.slice q xs.length c, vb, vk] 34 (0, 0)) := (hb.block _ hg).trans h1
  have wi1 : ∀ v l, WI w.heap.size W v l → WI w.heap.size w1 v l := fun v l hw => (hw.below hal).append (h2.below hal) hgr hwb
  have wi2 : ∀ v l, WI w.heap.size w1 v l → WI w.heap.size (w1.setCell ⟨g, 0, none⟩ (.slice q' (xs.length + 1) cp)) v l := fun v l hw => hw.keep (Keep.set g 0 _) hwg hg1 (by decide)
  refine ⟨q', cp, w1, hr, hg1, h6.trans (hb.mono hwb), ?_, ho.setOther hg, by simp, fun i hi => ?_, fun k hk hne => ?_, (h6.trans (hb.mono hwb)).setCell hwg _, by simpa using Nat.le_trans h7 hb.size⟩
  · exact (heap_setCell_same _ _ _ _ _ _ hg1).trans rfl
  · rcases Nat.lt_or_ge i xs.length with h | h
    · obtain ⟨x2, c2, e1, e2⟩ := h4 i h
      exact ⟨x2, c2, by rw [List.getElem?_append_left h]; exact e1, wi2 _ _ (wi1 _ _ e2)⟩
    · obtain rfl : i = xs.length := by omega
      exact ⟨x, c', by simp, wi2 _ _ (wi1 _ _ hx)⟩
  · rw [heap_setCell_other _ _ _ _ (by simpa using hne), hb.block _ hk]; exact h5 k hk hne
theorem Own.wi {W : World} {b z : Nat} {q : Option Addr} {c : Nat} {l : List Nat} (h : Own W b (.slice q 4 c) l) : WI z W (.slice q 4 c) l := by
  refine ⟨h.sees, fun k hk => ?_⟩
  rcases h.2.2 with ⟨hv, _⟩ | ⟨g, cap, cur, hv, _, hg, _⟩
  · simp at hv
  · rw [hv] at hk
    simp only [Value.ownBlock, Option.some.injEq] at hk
    rw [← hk]
    exact .inr ⟨cur, hg⟩
theorem NS.re {w W2 W : World} {g : Nat} {vb vk : Value} {key : List Nat} {n : Nat} {q : Option Addr} {c : Nat} {xs : List Value} {v : Value} {l : List Nat} (h : NS w W2 g vb vk key n q c xs W) (hs : Sees W2 v l) (hne : ∀ k, v.ownBlock = some k → k ≠ g) : Sees W v l :=
  hs.keep (r := g) (fun k hk hn => h.2.2.2.2.1 k hk hn) hne
/-- The word n, and the slice that holds all. -/
theorem NS.word {w W2 W : World} {g : Nat} {vb vk : Value} {key : List Nat} {n : Nat} {q : Option Addr} {c : Nat} {xs : List Value} (h : NS w W2 g vb vk key n q c xs W) (h0 : 0 < n) :
    ∃ gw, q = some ⟨gw, 0, none⟩ ∧ ∀ i, i < n → ∃ x c', W.cell? ⟨gw, i, none⟩ = some (.slice x 4 c') ∧ WI w.heap.size W (.slice x 4 c') (lat (wk key 60) i) := by
  obtain ⟨h1, h2, h3, h4, h5, h6, h7⟩ := h
  obtain ⟨gw, cap, hv, _, _, _, _, hc⟩ := h2.cells (by omega)
  simp only [Value.slice.injEq] at hv
  refine ⟨gw, hv.1, fun i hi => ?_⟩
  obtain ⟨x, c', e1, e2⟩ := h4 i hi
  refine ⟨x, c', ?_, e2⟩
  rw [hc i (by omega)]
  rw [List.getElem?_eq_getElem (show i < xs.length by omega)] at e1
  exact e1
theorem lat_next (key : List Nat) (n : Nat) (h8 : 8 ≤ n) (hn : n < 60) : lat (wk key 60) n = xorl 4 (lat (wk key 60) (n - 8)) (addw (lat (wk key 60) (n - 1)) n) := by
  rw [wk_last key n hn, nextw, if_neg (by omega)]
  have e1 := wk_get key n (n - 8) (by omega) (60 - n)
  have e2 := wk_get key n (n - 1) (by omega) (60 - n)
  rw [show n + (60 - n) = 60 by omega] at e1 e2
  rw [← e1, ← e2]
  rfl
theorem addw_0 (l : List Nat) (n : Nat) (h : n % 8 = 0) : addw l n = (boxl [at_ l 1, at_ l 2, at_ l 3, at_ l 0]).set 0 (Nat.xor (box (at_ l 1)) (npow 2 (n / 8 - 1))) := by
  unfold addw; rw [if_pos h]; rfl
theorem addw_4 {l : List Nat} (hl : l.length = 4) (n : Nat) (h : n % 8 = 4) : addw l n = boxl l := by
  unfold addw; rw [if_neg (by omega), if_pos h]
  unfold boxl
  rw [hl]; rfl
theorem addw_n (l : List Nat) (n : Nat) (h : n % 8 ≠ 0) (h4 : n % 8 ≠ 4) : addw l n = l := by unfold addw; rw [if_neg h, if_neg h4]
end Go.Proofs.Ytekffhopmicalaa
