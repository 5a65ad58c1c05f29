/-
  The relation of node.read's loop for a node that is no leaf, and how each step keeps it. Condition: none.
-/
import Derived.Test.YtnifaldgofmciaaNdP
import Derived.Great.BuildSlice
namespace Go.Proofs.Ytnifaldgofmciaa
open Go.RowKit
open oc (Byt Sees Own be nth got rst shrt getV)
/-- In the midst of a round: the node holds K0 and V0; the rows at hand are K and V. -/
structure MJ (wa : World) (B C g gn : Nat) (q : RS) (m n : Nat) (ks vs : List Value) (K V K0 V0 : Value) (W : World) : Prop where
  node : W.heap[gn]? = some (.cells #[.bool false, K0, .slice none 0 0, V0] 26 (0, 0))
  rd : ov.RD B W g q.1 q.2
  own : W.ownsRow C 52 1 K m ks
  row : W.ownsRow C 67 33 V n vs
  apart : K.ownBlock = none ∨ K.ownBlock ≠ V.ownBlock
  below : Below wa.heap.size wa W
  size : C ≤ W.heap.size
section
variable {wa : World} {B C g gn : Nat} {q : RS} {m n : Nat} {ks vs : List Value} {K V K0 V0 : Value} {W : World}
theorem MJ.call (h : MJ wa B C g gn q m n ks vs K V K0 V0 W) (E : EV wa B C g gn) {W1 : World} {q' : RS} (hr : ov.RD B W1 g q'.1 q'.2) (hgr : W.grownBy W1 (some g)) : MJ wa B C g gn q' m n ks vs K V K0 V0 W1 where
  node := (hgr.block gn (Array.getElem?_eq_some_iff.1 h.node).1 (fun e => E.ne (by cases e; rfl))).trans h.node
  rd := hr
  own := h.own.kept hgr (.inr (own_ne h.own E.hg))
  row := h.row.kept hgr (.inr (own_ne h.row E.hg))
  apart := h.apart
  below := h.below.grown hgr h.below.size (fun k e => by cases e; exact E.ag)
  size := Nat.le_trans h.size hgr.size
theorem MJ.under (h : MJ wa B C g gn q m n ks vs K V K0 V0 W) {W1 : World} (hb : Below W.heap.size W W1) : MJ wa B C g gn q m n ks vs K V K0 V0 W1 where
  node := (hb.block gn (Array.getElem?_eq_some_iff.1 h.node).1).trans h.node
  rd := h.rd.below hb
  own := h.own.kept (row := none) ⟨hb.os, hb.tape, hb.output, hb.size, fun k hk _ => hb.block k hk⟩ (by cases K.ownBlock <;> simp)
  row := h.row.kept (row := none) ⟨hb.os, hb.tape, hb.output, hb.size, fun k hk _ => hb.block k hk⟩ (by cases V.ownBlock <;> simp)
  apart := h.apart
  below := h.below.trans (hb.mono h.below.size)
  size := Nat.le_trans h.size hb.size
theorem MJ.drew (h : MJ wa B C g gn q m n ks vs K V K0 V0 W) : MJ wa B C g gn q m n ks vs K V K0 V0 W.drew := h.under (Below.refl _ _).drew
theorem MJ.alloc (h : MJ wa B C g gn q m n ks vs K V K0 V0 W) (o : Obj) : MJ wa B C g gn q m n ks vs K V K0 V0 (W.alloc o) := h.under ((Below.refl _ _).alloc (Nat.le_refl _) _)
theorem MJ.appK (h : MJ wa B C g gn q m n ks vs K V K0 V0 W) (E : EV wa B C g gn) {g2 : Nat} {x : Int} (hg : W.heap[g2]? = some (.cells #[.int .u64 x] 52 (0, 0))) (hm : m + 1 ≤ 256) :
    ∃ K' W', (Builtin.append_ #[22, 22] 22 #[K, .slice (some ⟨g2, 0, none⟩) 1 1]).run Try.prog W = .ok K' W' ∧ MJ wa B C g gn q (m + 1) n (ks ++ [.int .u64 x]) vs K' V K0 V0 W' := by
  obtain ⟨K', W', hr, ho, hgr, hat⟩ := appRow Try.underlying22 info52 rfl (by decide) h.own g2 [.int .u64 x] rfl hg (by simp [Value.oneCell']) hm (by decide) h.size
  have hk : ∀ k, K.ownBlock = some k → C ≤ k := fun k e => (h.own.lt k e).1
  refine ⟨K', W', hr, ?_, ?_, ho, ?_, ?_, ?_, Nat.le_trans h.size hgr.size⟩
  · exact (hgr.block gn (Array.getElem?_eq_some_iff.1 h.node).1 (fun e => own_ne h.own E.hn e.symm)).trans h.node
  · exact h.rd.kept hgr (own_ne h.own E.hg) (fun k e => Nat.le_trans E.hB (hk k e))
  · refine h.row.kept hgr ?_
    rcases h.apart with e | e
    · rw [e]
      cases V.ownBlock <;> simp
    · exact .inr (Ne.symm e)
  · rcases hat with e | e
    · rw [e]; exact h.apart
    · exact .inr (fun e2 => by rw [e] at e2; have := (h.row.lt _ e2.symm).2; omega)
  · exact h.below.grown hgr h.below.size (fun k e => by have := hk k e; have := E.hn; have := E.an; omega)
theorem MJ.appQ (h : MJ wa B C g gn q m n ks vs K V K0 V0 W) (E : EV wa B C g gn) {g2 : Nat} {z : Int × List Int} (hz : z.2.length = 32) (hg : W.heap[g2]? = some (.cells (kid z).toArray 67 (0, 0))) (hm : n + 1 ≤ 256) :
    ∃ V' W', (Builtin.append_ #[24, 24] 24 #[V, .slice (some ⟨g2, 0, none⟩) 1 1]).run Try.prog W = .ok V' W' ∧ MJ wa B C g gn q m (n + 1) ks (vs ++ kid z) K V' K0 V0 W' := by
  obtain ⟨V', W', hr, ho, hgr, hat⟩ := appRow Try.underlying24 info67 (by kernel_rfl) (by decide) h.row g2 (kid z) (by simp [kid, hz]) hg (by simp [kid, Value.oneCell']) hm (by decide) h.size
  have hk : ∀ k, V.ownBlock = some k → C ≤ k := fun k e => (h.row.lt k e).1
  refine ⟨V', W', hr, ?_, ?_, ?_, ho, ?_, ?_, Nat.le_trans h.size hgr.size⟩
  · exact (hgr.block gn (Array.getElem?_eq_some_iff.1 h.node).1 (fun e => own_ne h.row E.hn e.symm)).trans h.node
  · exact h.rd.kept hgr (own_ne h.row E.hg) (fun k e => Nat.le_trans E.hB (hk k e))
  · exact h.own.kept hgr h.apart
  · rcases hat with e | e
    · rw [e]; exact h.apart
    · cases hK : K.ownBlock with
      | none => exact .inl rfl
      | some k => exact .inr (fun e2 => by rw [e] at e2; cases e2; have := (h.own.lt _ hK).2; omega)
  · exact h.below.grown hgr h.below.size (fun k e => by have := hk k e; have := E.hn; have := E.an; omega)
theorem MJ.store (h : MJ wa B C g gn q m n ks vs K V K0 V0 W) (E : EV wa B C g gn) (K1 V1 : Value) : MJ wa B C g gn q m n ks vs K V K1 V1 (W.setRow gn #[.bool false, K1, .slice none 0 0, V1]) where
  node := setRow_heap W gn _ _ _ _ h.node
  rd := h.rd.kept (oc.grownBy_setRow _ _ _) (fun e => E.ne (by cases e; rfl)) (fun k e => by cases e; exact E.hBn)
  own := h.own.kept (oc.grownBy_setRow _ _ _) (.inr (own_ne h.own E.hn))
  row := h.row.kept (oc.grownBy_setRow _ _ _) (.inr (own_ne h.row E.hn))
  apart := h.apart
  below := h.below.grown (oc.grownBy_setRow _ _ _) h.below.size (fun k e => by cases e; exact E.an)
  size := by simpa using h.size
theorem MJ.other (h : MJ wa B C g gn q m n ks vs K V K0 V0 W) (E : EV wa B C g gn) {k : Nat} (cs : Array Value) (h1 : k ≠ g) (h2 : k ≠ gn) (hC : C ≤ k) (hK : K.ownBlock ≠ some k) (hV : V.ownBlock ≠ some k) :
    MJ wa B C g gn q m n ks vs K V K0 V0 (W.setRow k cs) where
  node := (setRow_other W k gn cs (Ne.symm h2)).trans h.node
  rd := h.rd.kept (oc.grownBy_setRow _ _ _) (fun e => h1 (by cases e; rfl)) (fun j e => by cases e; exact Nat.le_trans E.hB hC)
  own := h.own.kept (oc.grownBy_setRow _ _ _) (.inr hK)
  row := h.row.kept (oc.grownBy_setRow _ _ _) (.inr hV)
  apart := h.apart
  below := h.below.grown (oc.grownBy_setRow _ _ _) h.below.size (fun j e => by cases e; have := E.hn; have := E.an; omega)
  size := by simpa using h.size
end
theorem fold_set (off : Nat) : ∀ (xs : List Value) (k : Nat) (A : List Value), off + k + xs.length ≤ A.length →
    ((xs.zipIdx k).foldl (fun cs p => cs.setIfInBounds (off + p.2) p.1) A.toArray) = (A.take (off + k) ++ xs ++ A.drop (off + k + xs.length)).toArray
  | [], k, A, _ => by simp
  | x :: xs, k, A, h => by
    simp only [List.length_cons] at h
    rw [List.zipIdx_cons, List.foldl_cons]
    simp only [List.setIfInBounds_toArray]
    rw [fold_set off xs (k + 1) (A.set (off + k) x) (by rw [List.length_set]; omega)]
    congr 1
    rw [List.take_set, List.drop_set, if_pos (by omega), ← Nat.add_assoc, List.take_succ_eq_append_getElem (by omega)]
    rw [List.set_append_right _ _ (by simp; omega)]
    simp [Nat.min_eq_left (show off + k ≤ A.length by omega), show off + k + 1 + xs.length = off + k + (xs.length + 1) by omega]
theorem fill_cons (place : Nat → Option (Nat × Nat)) (A : List Value) (i off n : Nat) (v : Value) (rest : List (Nat × Value)) (hp : place i = some (off, n)) (hn : v.cells.size = n) (hf : off + n ≤ A.length) :
    Instr.fill place A.toArray ((i, v) :: rest) = Instr.fill place (A.take off ++ v.cells.toList ++ A.drop (off + n)).toArray rest := by
  have h := fold_set off v.cells.toList 0 A (by simpa [hn] using hf)
  simp only [Nat.add_zero, Array.length_toList, hn] at h
  have h2 : v.cells.zipIdx.foldl (fun cs (x : Value × Nat) => cs.setIfInBounds (off + x.2) x.1) A.toArray = (A.take off ++ v.cells.toList ++ A.drop (off + n)).toArray := by
    rw [← h, ← Array.foldl_toList, Array.toList_zipIdx]
  show (match place i with
    | none => none
    | some (off, size) => if v.cells.size ≠ size || off + v.cells.size > A.toArray.size then none else Instr.fill place (v.cells.zipIdx.foldl (fun cs (c, j) => cs.setIfInBounds (off + j) c) A.toArray) rest) = _
  rw [hp]
  simp only [hn]
  rw [if_neg (by simp; omega)]
  exact congrArg (fun x => Instr.fill place x rest) h2
theorem bs24 (z : Int × List Int) (hz : z.2.length = 32) (w : World) : (Instr.buildSlice 24 1 #[(0, .agg (kid z).toArray)]).run Try.prog w = .ok (.slice (some ⟨w.heap.size, 0, none⟩) 1 1) (w.alloc (.cells (kid z).toArray 67)) := by
  obtain ⟨i, hi, h0, h1, h2⟩ := info_parts info67
  refine run_buildSlice w 24 67 1 _ _ i _ Try.underlying24 hi h0 (by rw [h1]; decide) (by rw [h1]; decide) ?_
  have e : (Array.range (1 * i.size)).map ((Value.agg (kid (0, List.replicate 32 0)).toArray).cells[· % (Value.agg (kid (0, List.replicate 32 0)).toArray).cells.size]!) = (kid (0, List.replicate 32 0)).toArray := by rw [h1]; kernel_rfl
  rw [e]
  have hk : (kid z).length = 33 := by simp [kid, hz]
  show Instr.fill _ (kid (0, List.replicate 32 0)).toArray [(0, Value.agg (kid z).toArray)] = _
  rw [fill_cons (fun j => some (j * i.size, i.size)) (kid (0, List.replicate 32 0)) 0 (0 * i.size) i.size _ _ rfl (by rw [h1]; simp [Value.cells, hk]) (by rw [h1]; simp [kid])]
  rw [h1]
  simp [Instr.fill, Value.cells, kid]
set_option maxRecDepth 100000 in
theorem b67 (x : Int) (w : World) : (Instr.build 67 #[(0, .int .u32 x)]).run Try.prog w = .ok (.agg (kid (x, List.replicate 32 0)).toArray) w := by kernel_rfl
set_option maxRecDepth 100000 in
theorem z67 (w : World) : (zeroValue 67).run Try.prog w = .ok (.agg (kid (0, List.replicate 32 0)).toArray) w := by kernel_rfl
theorem i67 {z : Int × List Int} (h : z.2.length = 32) : (Try.prog.info? 67).map (·.size) = some (kid z).toArray.size := by
  rw [show (kid z).toArray.size = 33 by simp [kid, h]]; kernel_rfl
/-- The sum of a kid, copied into the newest reference. -/
theorem cpKid (W : World) (g : Nat) (x : Int) (xs : List Int) (hl : xs.length ≤ 32) (hg : W.heap[g]? = some (.cells (kid (x, List.replicate 32 0)).toArray 67 (0, 0))) (v : Value) (hs : Sees W v xs) :
    (Builtin.copy_ #[27, 27] 3 #[.slice (some ⟨g, 1, none⟩) 32 32, v]).run Try.prog W = .ok (.int .i64 xs.length) (W.setRow g (kid (x, fix 32 xs)).toArray) := by
  have e : ((kid (x, List.replicate 32 0)).toArray.toList.take 1 ++ xs.map (Value.int .u8) ++ (kid (x, List.replicate 32 0)).toArray.toList.drop (1 + xs.length)).toArray = (kid (x, fix 32 xs)).toArray := by
    unfold kid fix
    rw [show 1 + xs.length = xs.length + 1 by omega]
    simp only [List.take_succ_cons, List.take_zero, List.drop_succ_cons, List.cons_append, List.nil_append, List.map_append]
    rw [← List.map_drop, List.drop_replicate]
  have key : ∀ (a : Addr) (c : Nat), v = .slice (some a) xs.length c → (∀ j, j < xs.length → W.cell? (a.add j) = some (.int .u8 (nth xs j))) →
      (Builtin.copy_ #[27, 27] 3 #[.slice (some ⟨g, 1, none⟩) 32 32, v]).run Try.prog W = .ok (.int .i64 xs.length) (W.setRow g (kid (x, fix 32 xs)).toArray) := by
    intro a c hv hc
    subst hv
    rw [run_copy_row Try.prog W 27 27 3 5 g 1 32 32 a xs.length c (kid (x, List.replicate 32 0)).toArray 67 (xs.map (Value.int .u8)) Try.underlying27 oc.info5s hg (by rw [List.length_map]; exact (Nat.min_eq_left hl).symm) (fun j u hj => by
        have hjl : j < xs.length := by
          rcases Nat.lt_or_ge j xs.length with h | h
          · exact h
          · simp [List.getElem?_eq_none (show (xs.map (Value.int .u8)).length ≤ j by simpa using h)] at hj
        rw [hc j hjl, ← hj]
        simp [nth, List.getD, hjl]) (by simp [kid]; omega) (by simp [Value.oneCell'])]
    rw [List.length_map, e]
    simp [goInt]
  obtain ⟨h1, ⟨rfl, rfl⟩ | ⟨a, c, rfl, rfl, _⟩ | ⟨b, o, c, rfl, h3, h4, h5, h6⟩⟩ := hs
  · have hr := run_copy_nil Try.prog W 27 27 3 5 ⟨g, 1, none⟩ 32 32 Try.underlying27 (by rw [oc.info5s]; rfl)
    rw [hr, show fix 32 [] = List.replicate 32 0 from rfl]
    rw [setRow_self W g _ 67 (0, 0) hg]
    rfl
  · exact key a c rfl (by simp)
  · exact key _ c rfl (fun j hj => by rw [add_plain]; exact h6 j hj)
end Go.Proofs.Ytnifaldgofmciaa
