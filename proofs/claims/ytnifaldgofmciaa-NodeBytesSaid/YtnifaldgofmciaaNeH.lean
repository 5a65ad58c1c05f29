/-
  The walks of NodeHalves. Condition: the node reads as one.
-/
import Derived.Test.YtnifaldgofmciaaNeC
namespace Go.Proofs.Ytnifaldgofmciaa
open Go.RowKit
theorem ND.keys {w : World} {X : Array Value} {n : NV} (h : ND w (.agg X) n) : ∃ x c, X[1]? = some (.slice x n.ks.length c) ∧ KS w (.slice x n.ks.length c) n.ks := by
  obtain ⟨K, V, Q, e, h1, _⟩ := h
  obtain ⟨x, c, rfl⟩ := h1.len
  injection e with e
  exact ⟨x, c, by rw [e]; rfl, h1⟩
theorem KS.at {w : World} {x : Option Addr} {n c : Nat} {ks : List Int} (h : KS w (.slice x n c) ks) (i : Nat) (hi : i < ks.length) : ∃ b o, x = some ⟨b, o, none⟩ ∧ b < w.heap.size ∧ w.cell? ⟨b, o + i, none⟩ = some (.int .u64 (ks.getD i 0)) := by
  obtain ⟨_, _, x', c', e, h4⟩ := h
  injection e with e1 e2 e3
  subst e1
  exact h4 i hi
def CellF (w : World) (b o : Nat) (v : Value) : Prop := b < w.heap.size ∧ w.cell? ⟨b, o, none⟩ = some v
theorem CellF.below {w w' : World} {b o : Nat} {v : Value} (h : CellF w b o v) (hb : Below w.heap.size w w') : CellF w' b o v := ⟨Nat.lt_of_lt_of_le h.1 hb.size, (hb.cell (p := ⟨b, o, none⟩) h.1).trans h.2⟩
end Go.Proofs.Ytnifaldgofmciaa
