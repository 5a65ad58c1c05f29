/-
  Contracts of the functions that the statements of package entry go through: what was read is held against how it is written. Condition: the value is 44 bytes.
-/
import Derived.Test.YtbhkhkiidaemcaaEF
namespace Go.Proofs.Ytbhkhkiidaemcaa
open Go.RowKit
set_option maxRecDepth 100000 in
theorem eq38 (xs ys : List Int) (hx : Byt xs) (hy : Byt ys) (lx : xs.length = 44) (ly : ys.length = 44) (w : World) :
    (Op.equalIn 10000 38 (.agg (bcells xs)) (.agg (bcells ys))).run Try.prog w = .ok (decide (xs = ys)) w :=
  eqBytes 9998 38 44 (by kernel_rfl) xs ys hx hy lx ly w
/-- What checked tells. -/
def ChP (w : World) (m : Prop) [Decidable m] (V v : List Int) (X Z : Value) (e : Ending) (w' : World) : Prop :=
  e = .returned (.tuple #[if m ∧ V = v then X else Z, .int .i64 (if m ∧ V = v then 0 else 3)]) ∧ Below w.heap.size w w'
theorem chP_no {w w' : World} {m : Prop} [Decidable m] {V v : List Int} {X Z : Value} (h : ¬ (m ∧ V = v)) (hb : Below w.heap.size w w') : ChP w m V v X Z (.returned (.tuple #[Z, .int .i64 3])) w' := by
  unfold ChP; rw [if_neg h, if_neg h]; exact ⟨rfl, hb⟩
theorem chP_yes {w w' : World} {m : Prop} [Decidable m] {V v : List Int} {X Z : Value} (h : m ∧ V = v) (hb : Below w.heap.size w w') : ChP w m V v X Z (.returned (.tuple #[X, .int .i64 0])) w' := by
  unfold ChP; rw [if_pos h, if_pos h]; exact ⟨rfl, hb⟩
end Go.Proofs.Ytbhkhkiidaemcaa
