/-
  The relation of node.read's loop, and how each step keeps it. Condition: none.
-/
import Derived.Test.YtnifaldgofmciaaNdM
namespace Go.Proofs.Ytnifaldgofmciaa
open Go.RowKit
open oc (Byt Sees Own be nth got rst shrt getV)
/-- Where the reader, the node and the rows lie. -/
structure EV (wa : World) (B C g gn : Nat) : Prop where
  hg : g < C
  hn : gn < C
  ne : gn ≠ g
  hB : B ≤ C
  hBn : B ≤ gn
  ag : wa.heap.size ≤ g
  an : wa.heap.size ≤ gn
/-- In the midst of a round: the node holds K0 and V0; the rows at hand are K and V. -/
structure MI (wa : World) (B C g gn : Nat) (q : RS) (m n : Nat) (ks vs : List Value) (K V K0 V0 : Value) (W : World) : Prop where
  node : W.heap[gn]? = some (.cells #[.bool true, K0, V0, .slice none 0 0] 26 (0, 0))
  rd : ov.RD B W g q.1 q.2
  own : W.ownsRow C 52 1 K m ks
  row : W.ownsRow C 54 44 V n vs
  apart : K.ownBlock = none ∨ K.ownBlock ≠ V.ownBlock
  below : Below wa.heap.size wa W
  size : C ≤ W.heap.size
section
variable {wa : World} {B C g gn : Nat} {q : RS} {m n : Nat} {ks vs : List Value} {K V K0 V0 : Value} {W : World}
theorem own_ne {e size m : Nat} {K : Value} {ks : List Value} (h : W.ownsRow C e size K m ks) {k : Nat} (hk : k < C) : K.ownBlock ≠ some k := fun e => by have := (h.lt k e).1; omega
theorem MI.call (h : MI wa B C g gn q m n ks vs K V K0 V0 W) (E : EV wa B C g gn) {W1 : World} {q' : RS} (hr : ov.RD B W1 g q'.1 q'.2) (hgr : W.grownBy W1 (some g)) : MI wa B C g gn q' m n ks vs K V K0 V0 W1 where
  node := (hgr.block gn (Array.getElem?_eq_some_iff.1 h.node).1 (fun e => E.ne (by cases e; rfl))).trans h.node
  rd := hr
  own := h.own.kept hgr (.inr (own_ne h.own E.hg))
  row := h.row.kept hgr (.inr (own_ne h.row E.hg))
  apart := h.apart
  below := h.below.grown hgr h.below.size (fun k e => by cases e; exact E.ag)
  size := Nat.le_trans h.size hgr.size
theorem MI.under (h : MI wa B C g gn q m n ks vs K V K0 V0 W) {W1 : World} (hb : Below W.heap.size W W1) : MI wa B C g gn q m n ks vs K V K0 V0 W1 where
  node := (hb.block gn (Array.getElem?_eq_some_iff.1 h.node).1).trans h.node
  rd := h.rd.below hb
  own := h.own.kept (row := none) ⟨hb.os, hb.tape, hb.output, hb.size, fun k hk _ => hb.block k hk⟩ (by cases K.ownBlock <;> simp)
  row := h.row.kept (row := none) ⟨hb.os, hb.tape, hb.output, hb.size, fun k hk _ => hb.block k hk⟩ (by cases V.ownBlock <;> simp)
  apart := h.apart
  below := h.below.trans (hb.mono h.below.size)
  size := Nat.le_trans h.size hb.size
theorem MI.drew (h : MI wa B C g gn q m n ks vs K V K0 V0 W) : MI wa B C g gn q m n ks vs K V K0 V0 W.drew := h.under (Below.refl _ _).drew
theorem MI.alloc (h : MI wa B C g gn q m n ks vs K V K0 V0 W) (o : Obj) : MI wa B C g gn q m n ks vs K V K0 V0 (W.alloc o) := h.under ((Below.refl _ _).alloc (Nat.le_refl _) _)
theorem MI.appK (h : MI wa B C g gn q m n ks vs K V K0 V0 W) (E : EV wa B C g gn) {g2 : Nat} {x : Int} (hg : W.heap[g2]? = some (.cells #[.int .u64 x] 52 (0, 0))) (hm : m + 1 ≤ 256) :
    ∃ K' W', (Builtin.append_ #[22, 22] 22 #[K, .slice (some ⟨g2, 0, none⟩) 1 1]).run Try.prog W = .ok K' W' ∧ MI wa B C g gn q (m + 1) n (ks ++ [.int .u64 x]) vs K' V K0 V0 W' := by
  obtain ⟨K', W', hr, ho, hgr, hat⟩ := appRow Try.underlying22 info52 rfl (by decide) h.own g2 [.int .u64 x] rfl hg (by simp [Value.oneCell']) hm (by decide) h.size
  have hk : ∀ k, K.ownBlock = some k → C ≤ k := fun k e => (h.own.lt k e).1
  refine ⟨K', W', hr, ?_, ?_, ho, ?_, ?_, ?_, Nat.le_trans h.size hgr.size⟩
  · exact (hgr.block gn (Array.getElem?_eq_some_iff.1 h.node).1 (fun e => own_ne h.own E.hn e.symm)).trans h.node
  · exact h.rd.kept hgr (own_ne h.own E.hg) (fun k e => Nat.le_trans E.hB (hk k e))
  · refine h.row.kept hgr ?_
    rcases h.apart with e | e
    · rw [e]
      cases V.ownBlock <;> simp
    · exact .inr (Ne.symm e)
  · rcases hat with e | e
    · rw [e]; exact h.apart
    · exact .inr (fun e2 => by rw [e] at e2; have := (h.row.lt _ e2.symm).2; omega)
  · exact h.below.grown hgr h.below.size (fun k e => by have := hk k e; have := E.hn; have := E.an; omega)
theorem MI.appV (h : MI wa B C g gn q m n ks vs K V K0 V0 W) (E : EV wa B C g gn) {g2 : Nat} {z : List Int} (hz : z.length = 44) (hg : W.heap[g2]? = some (.cells (val z).toArray 54 (0, 0))) (hm : n + 1 ≤ 256) :
    ∃ V' W', (Builtin.append_ #[23, 23] 23 #[V, .slice (some ⟨g2, 0, none⟩) 1 1]).run Try.prog W = .ok V' W' ∧ MI wa B C g gn q m (n + 1) ks (vs ++ val z) K V' K0 V0 W' := by
  obtain ⟨V', W', hr, ho, hgr, hat⟩ := appRow Try.underlying23 info54 (by kernel_rfl) (by decide) h.row g2 (val z) (by simp [val, hz]) hg (by simp [val, Value.oneCell']) hm (by decide) h.size
  have hk : ∀ k, V.ownBlock = some k → C ≤ k := fun k e => (h.row.lt k e).1
  refine ⟨V', W', hr, ?_, ?_, ?_, ho, ?_, ?_, Nat.le_trans h.size hgr.size⟩
  · exact (hgr.block gn (Array.getElem?_eq_some_iff.1 h.node).1 (fun e => own_ne h.row E.hn e.symm)).trans h.node
  · exact h.rd.kept hgr (own_ne h.row E.hg) (fun k e => Nat.le_trans E.hB (hk k e))
  · exact h.own.kept hgr h.apart
  · rcases hat with e | e
    · rw [e]; exact h.apart
    · cases hK : K.ownBlock with
      | none => exact .inl rfl
      | some k => exact .inr (fun e2 => by rw [e] at e2; cases e2; have := (h.own.lt _ hK).2; omega)
  · exact h.below.grown hgr h.below.size (fun k e => by have := hk k e; have := E.hn; have := E.an; omega)
theorem MI.store (h : MI wa B C g gn q m n ks vs K V K0 V0 W) (E : EV wa B C g gn) (K1 V1 : Value) : MI wa B C g gn q m n ks vs K V K1 V1 (W.setRow gn #[.bool true, K1, V1, .slice none 0 0]) where
  node := setRow_heap W gn _ _ _ _ h.node
  rd := h.rd.kept (oc.grownBy_setRow _ _ _) (fun e => E.ne (by cases e; rfl)) (fun k e => by cases e; exact E.hBn)
  own := h.own.kept (oc.grownBy_setRow _ _ _) (.inr (own_ne h.own E.hn))
  row := h.row.kept (oc.grownBy_setRow _ _ _) (.inr (own_ne h.row E.hn))
  apart := h.apart
  below := h.below.grown (oc.grownBy_setRow _ _ _) h.below.size (fun k e => by cases e; exact E.an)
  size := by simpa using h.size
theorem MI.copyV (h : MI wa B C g gn q m (n + 1) ks (vs ++ val (List.replicate 44 0)) K V K0 V0 W) (E : EV wa B C g gn) (hl : vs.length = n * 44) {v : Value} {xs : List Int} (hs : Sees W v xs) (hx : xs.length ≤ 44) :
    ∃ gv cap W', V = .slice (some ⟨gv, 0, none⟩) (n + 1) cap ∧ (Builtin.copy_ #[27, 27] 3 #[.slice (some ⟨gv, n * 44, none⟩) 44 44, v]).run Try.prog W = .ok (.int .i64 xs.length) W' ∧
      MI wa B C g gn q m (n + 1) ks (vs ++ val (fix 44 xs)) K V K0 V0 W' := by
  obtain ⟨gv, cap, W', hV, hr, ho, hgr, hC⟩ := copyLast hl h.row hs hx
  have hvb : V.ownBlock = some gv := by rw [hV]; rfl
  refine ⟨gv, cap, W', hV, hr, ?_, ?_, ?_, ho, h.apart, ?_, Nat.le_trans h.size hgr.size⟩
  · exact (hgr.block gn (Array.getElem?_eq_some_iff.1 h.node).1 (fun e => by cases e; have := E.hn; omega)).trans h.node
  · exact h.rd.kept hgr (fun e => by cases e; have := E.hg; omega) (fun k e => by cases e; exact Nat.le_trans E.hB hC)
  · refine h.own.kept hgr ?_
    rw [← hvb]
    exact h.apart
  · exact h.below.grown hgr h.below.size (fun k e => by cases e; have := E.hn; have := E.an; omega)
end
end Go.Proofs.Ytnifaldgofmciaa
