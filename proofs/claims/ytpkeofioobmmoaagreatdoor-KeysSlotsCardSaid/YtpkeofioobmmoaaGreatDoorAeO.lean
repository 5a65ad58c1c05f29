/-
  Words and lemmas: a slice of numbers of one kind that a call makes by appending one number after the other. No condition.
-/
import Derived.WalkKit
import Derived.Lib.Hide
import Derived.KernelRfl
import Derived.Below
import Derived.Laws.Rows
import Derived.Laws.Tables
import Derived.Maps.AppendAt
import Derived.Laws.OwnMore
namespace Go.Proofs.YtpkeofioobmmoaaGreatDoor.ae
open Go.RowKit
/-- The number at a place (0 behind the end). -/
def nth (xs : List Int) (i : Nat) : Int := xs.getD i 0
/-- The call's own numbers, in a block from base on. -/
def OwnK (k : IntKind) (E : TypeId) (w : World) (base : Nat) (v : Value) (xs : List Int) : Prop := w.ownsRow base E 1 v xs.length (xs.map (Value.int k))
theorem ownk_nil (k : IntKind) (E : TypeId) (w : World) (base : Nat) : OwnK k E w base (.slice none 0 0) [] := World.ownsRow_nil w base E 1
theorem OwnK.grown {k : IntKind} {E : TypeId} {w w' : World} {base : Nat} {v : Value} {xs : List Int} {row : Option Nat} (h : OwnK k E w base v xs) (hg : w.grownBy w' row) (hne : v.ownBlock = none ∨ v.ownBlock ≠ row) : OwnK k E w' base v xs :=
  World.ownsRow.kept h hg hne
theorem OwnK.below {k : IntKind} {E : TypeId} {w w' : World} {base : Nat} {v : Value} {xs : List Int} (h : OwnK k E w base v xs) (hb : Below w.heap.size w w') : OwnK k E w' base v xs :=
  h.grown (row := none) ⟨hb.os, hb.tape, hb.output, hb.size, fun j hj _ => hb.block j hj⟩ (by cases v.ownBlock <;> simp)
/-- Its cells. -/
theorem OwnK.cells {k : IntKind} {E : TypeId} {w : World} {base : Nat} {v : Value} {xs : List Int} (h : OwnK k E w base v xs) (h0 : 0 < xs.length) :
    ∃ g cap, v = .slice (some ⟨g, 0, none⟩) xs.length cap ∧ base ≤ g ∧ xs.length ≤ cap ∧ cap ≤ maxLen ∧ ∀ i, i < xs.length → w.cell? ⟨g, i, none⟩ = some (.int k (nth xs i)) := by
  obtain ⟨hl, ⟨rfl, e0⟩ | ⟨g, cap, cur, rfl, hbg, hg, hn, hm, hs, ht⟩⟩ := h
  · omega
  · refine ⟨g, cap, rfl, hbg, hn, hm, fun i hi => ?_⟩
    rw [cell_of_row _ _ _ _ _ _ hg]
    have h1 : (xs.map (Value.int k))[i]? = some (.int k (nth xs i)) := by simp [nth, List.getD, hi]
    rw [← ht, List.getElem?_take_of_lt (by omega)] at h1
    simpa using h1
/-- One number more. -/
theorem OwnK.push {P : Program} {k : IntKind} {E T : TypeId} {by_ : Nat} (ht : P.underlying T = some (.slice E)) (hinfo : (P.info? E).map (fun i => (i.zero, i.size, i.bytes)) = some (some (.int k 0), 1, by_)) (hby : by_ ≤ 8)
    {w : World} {base : Nat} {v : Value} {xs : List Int} (h : OwnK k E w base v xs) (hn : xs.length + 1 ≤ 1099511627776) (hbase : base ≤ w.heap.size) (x : Int) :
    ∃ q cap w', (Builtin.append_ #[T, T] T #[v, .slice (some ⟨w.heap.size, 0, none⟩) 1 1]).run P (w.alloc (.cells #[.int k x] E)) = .ok (.slice q (xs.length + 1) cap) w' ∧
      OwnK k E w' base (.slice q (xs.length + 1) cap) (xs ++ [x]) ∧ Below base w w' ∧ (w.alloc (.cells #[.int k x] E)).grownBy w' v.ownBlock := by
  obtain ⟨i, hi, hz0, hz1, hz2⟩ := info_parts hinfo
  have ho : OwnK k E (w.alloc (.cells #[.int k x] E)) base v xs := h.below ((Below.refl _ _).alloc (Nat.le_refl _) _)
  have hb : (xs.length + 1) * by_ ≤ 140737488355328 := Nat.le_trans (Nat.mul_le_mul_left _ hby) (by omega)
  have hm : xs.length + 1 ≤ maxLen := by unfold maxLen; omega
  obtain ⟨v', w', hr, hown, hg, hnil⟩ := run_append_own (P := P) (w.alloc (.cells #[.int k x] E)) base T T E i _ 1 by_ ht hi hz0 hz1 hz2 rfl (by decide) v xs.length _ ho ⟨w.heap.size, 0, none⟩ 1 1 [.int k x] rfl (cell_one_new w _ _) (by simp [Value.oneCell']) hm hb (by simp; omega)
  have hbel : Below base w w' := ((Below.refl base w).alloc hbase _).grown hg (by simp; omega) (fun j e => (World.ownsRow.lt ho j e).1)
  have hown' : OwnK k E w' base v' (xs ++ [x]) := by
    unfold OwnK
    rw [List.length_append, List.map_append]
    exact hown
  rcases hown.2 with ⟨rfl, h0⟩ | ⟨g, cap, cur, rfl, _⟩
  · omega
  · exact ⟨_, _, w', hr, hown', hbel, hg⟩
/-- An append whose run is known, in a plain region. -/
theorem wpList_appK {P : Program} (T : TypeId) {ops : Array Oper} {rest : List Oper} {o : Oper} {a : Act} {w : World} {Q : Exit → Act → World → Prop} (hgd : o.guard = none) (s x : Operand)
    (ho : o.op = .call { callee := .builtin .append, args := #[s, x], argTypes := #[T, T] }) (hty : o.type = T) {v u v' : Value} {w' : World} (hs : a.eval s = v) (hx : a.eval x = u)
    (hr : (Builtin.append_ #[T, T] T #[v, u]).run P w = .ok v' w') (h : wpList P ops Q rest (a.put o.dst v') w') : wpList P ops Q (o :: rest) a w := by
  refine wpList_plain hgd fun K hK => ?_
  unfold Oper.wp execOp
  simp only [ho, hty, resolve, invoke, builtin, Sem.run_bind, Sem.run_pure, Result.andThen_ok, List.map_toArray, List.map_cons, List.map_nil, hs, hx, hr]
  exact hK _ _ h
end Go.Proofs.YtpkeofioobmmoaaGreatDoor.ae
