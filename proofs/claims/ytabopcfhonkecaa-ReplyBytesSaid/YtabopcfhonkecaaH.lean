/-
  Contracts of the functions that the statements of package octet go through: bytes that are appended; copies; padding, ours and the document's. Condition: the slices read as bytes, of bounded length.
-/
import Derived.Test.YtabopcfhonkecaaG
import Derived.Maps.AppendAt
import Derived.Laws.OwnMore
namespace Go.Proofs.Ytabopcfhonkecaa
open Go.RowKit

/-- The call's own bytes, in a block from base on. -/
def Own (w : World) (base : Nat) (v : Value) (xs : List Int) : Prop := Byt xs ∧ w.ownsRow base 5 1 v xs.length (xs.map (Value.int .u8))

theorem own_nil (w : World) (base : Nat) : Own w base (.slice none 0 0) [] := ⟨fun _ h => by simp at h, World.ownsRow_nil w base 5 1⟩

theorem Own.sees {w : World} {base : Nat} {v : Value} {xs : List Int} (h : Own w base v xs) : Sees w v xs := by
  obtain ⟨hb, hl, ⟨rfl, h0⟩ | ⟨g, cap, cur, rfl, _, hg, hn, hm, hs, ht⟩⟩ := h
  · exact ⟨hb, .inl ⟨rfl, List.length_eq_zero_iff.1 h0⟩⟩
  · refine ⟨hb, ?_⟩
    by_cases h0 : xs = []
    · subst h0
      exact .inr (.inl ⟨_, _, rfl, rfl, hm⟩)
    · refine .inr (.inr ⟨g, 0, cap, rfl, h0, hn, hm, fun i hi => ?_⟩)
      rw [cell_of_row _ _ _ _ _ _ hg, Nat.zero_add]
      have h1 : (xs.map (Value.int .u8))[i]? = some (.int .u8 (nth xs i)) := by simp [nth, List.getD, hi]
      rw [← ht, List.getElem?_take_of_lt (by omega)] at h1
      simpa using h1

theorem Own.grown {w w' : World} {base : Nat} {v : Value} {xs : List Int} {row : Option Nat} (h : Own w base v xs) (hg : w.grownBy w' row) (hne : v.ownBlock = none ∨ v.ownBlock ≠ row) : Own w' base v xs := ⟨h.1, h.2.kept hg hne⟩

theorem Own.below {w w' : World} {base : Nat} {v : Value} {xs : List Int} (h : Own w base v xs) (hb : Below w.heap.size w w') : Own w' base v xs :=
  h.grown (row := none) ⟨hb.os, hb.tape, hb.output, hb.size, fun k hk _ => hb.block k hk⟩ (by cases v.ownBlock <;> simp)

theorem app {w : World} {base : Nat} {v u : Value} {xs ys : List Int} (h : Own w base v xs) (hs : Sees w u ys) (hn : xs.length + ys.length ≤ 1099511627776) (hbase : base ≤ w.heap.size) :
    ∃ x cap w', (Builtin.append_ #[23, 23] 23 #[v, u]).run Try.prog w = .ok (.slice x (xs.length + ys.length) cap) w' ∧ Own w' base (.slice x (xs.length + ys.length) cap) (xs ++ ys) ∧ w.grownBy w' v.ownBlock ∧ Below base w w' := by
  obtain ⟨i, hi, hz0, hz1, hz2⟩ := info_parts info5
  have fin : ∀ v' w', (Builtin.append_ #[23, 23] 23 #[v, u]).run Try.prog w = .ok v' w' → w'.ownsRow base 5 1 v' (xs.length + ys.length) (xs.map (Value.int .u8) ++ ys.map (Value.int .u8)) → w.grownBy w' v.ownBlock →
      ∃ x cap w', (Builtin.append_ #[23, 23] 23 #[v, u]).run Try.prog w = .ok (.slice x (xs.length + ys.length) cap) w' ∧ Own w' base (.slice x (xs.length + ys.length) cap) (xs ++ ys) ∧ w.grownBy w' v.ownBlock ∧ Below base w w' := by
    intro v' w' hr ho hg
    have hbel : Below base w w' := (Below.refl _ _).grown hg hbase (fun k e => (h.2.lt k e).1)
    have ho' : Own w' base v' (xs ++ ys) := ⟨h.1.append hs.1, by simpa using ho⟩
    rcases ho.2 with ⟨rfl, h0⟩ | ⟨g, cap, cur, rfl, _⟩
    · exact ⟨none, 0, w', by rw [h0]; exact hr, by rw [h0]; exact ho', hg, hbel⟩
    · exact ⟨_, _, w', hr, ho', hg, hbel⟩
  have hm : xs.length + ys.length ≤ maxLen := by unfold maxLen; omega
  have key : ∀ (a : Addr) (cap : Nat), u = .slice (some a) ys.length cap → (∀ i, i < ys.length → w.cell? (a.add i) = some (.int .u8 (nth ys i))) →
      ∃ x cap w', (Builtin.append_ #[23, 23] 23 #[v, u]).run Try.prog w = .ok (.slice x (xs.length + ys.length) cap) w' ∧ Own w' base (.slice x (xs.length + ys.length) cap) (xs ++ ys) ∧ w.grownBy w' v.ownBlock ∧ Below base w w' := by
    intro a cap hu hc
    obtain ⟨v', w', hr, ho, hg, _⟩ := run_append_own (P := Try.prog) w base 23 23 5 i _ 1 1 Try.underlying23 hi hz0 hz1 hz2 rfl (by decide) v xs.length _ h.2 a ys.length cap (ys.map (Value.int .u8)) (by simp) (fun j u' hj => by
        have hjl : j < ys.length := by
          rcases Nat.lt_or_ge j ys.length with h | h
          · exact h
          · simp [List.getElem?_eq_none (show (ys.map (Value.int .u8)).length ≤ j by simpa using h)] at hj
        rw [hc j hjl, ← hj]
        simp [nth, List.getD, hjl]) (by simp [Value.oneCell']) hm (by omega) hbase
    rw [← hu] at hr
    exact fin v' w' hr ho hg
  obtain ⟨h1, ⟨hu, rfl⟩ | ⟨a, cap, hu, rfl, _⟩ | ⟨b, o, cap, hu, h3, h4, h5, h6⟩⟩ := id hs
  · have hr := run_append_owned_none (P := Try.prog) (w := w) base 23 23 5 i 1 Try.underlying23 hi v xs.length _ h.2
    rw [← hu] at hr
    exact fin v w hr (by simpa using h.2) ⟨rfl, rfl, rfl, Nat.le_refl _, fun _ _ _ => rfl⟩
  · exact key a cap hu (by simp)
  · refine key _ cap hu fun i hi => ?_
    have hplain : (⟨b, o, none⟩ : Addr).add i = ⟨b, o + i, none⟩ := by unfold Addr.add; split <;> simp_all
    rw [hplain]
    exact h6 i hi

/-- An append whose run is known, in a plain region. -/
theorem wpList_app {ops : Array Oper} {rest : List Oper} {o : Oper} {a : Act} {w : World} {Q : Exit → Act → World → Prop} (hgd : o.guard = none) (s x : Operand)
    (ho : o.op = .call { callee := .builtin .append, args := #[s, x], argTypes := #[23, 23] }) (hty : o.type = 23) {v u v' : Value} {w' : World} (hs : a.eval s = v) (hx : a.eval x = u)
    (hr : (Builtin.append_ #[23, 23] 23 #[v, u]).run Try.prog w = .ok v' w') (h : wpList Try.prog ops Q rest (a.put o.dst v') w') : wpList Try.prog ops Q (o :: rest) a w := by
  refine wpList_plain hgd fun K hK => ?_
  unfold Oper.wp execOp
  simp only [ho, hty, resolve, invoke, builtin, Sem.run_bind, Sem.run_pure, Result.andThen_ok, List.map_toArray, List.map_cons, List.map_nil, hs, hx, hr]
  exact hK _ _ h

/-- A result of a call: its own new bytes. -/
def OwnP (w : World) (xs : List Int) (e : Ending) (w' : World) : Prop :=
  ∃ x cap, e = .returned (.slice x xs.length cap) ∧ Own w' w.heap.size (.slice x xs.length cap) xs ∧ Below w.heap.size w w'

/-- What Pad tells: the error; the bytes. -/
def padE (l : Nat) (n : Int) : Int := if n < 0 ∨ 65536 < n then 1 else if n < l then 2 else 0
def padV (xs : List Int) (n : Int) : List Int := if padE xs.length n = 0 then xs ++ List.replicate (n.toNat - xs.length) 0 else []

def PadP (w : World) (xs : List Int) (n : Int) (e : Ending) (w' : World) : Prop :=
  ∃ v, e = .returned (.tuple #[v, .int .i64 (padE xs.length n)]) ∧ Sees w' v (padV xs n) ∧ Below w.heap.size w w'

theorem PadP.mk {w : World} {xs : List Int} {n k : Int} {v : Value} {w' : World} (hE : padE xs.length n = k) (hs : Sees w' v (padV xs n)) (hb : Below w.heap.size w w') : PadP w xs n (.returned (.tuple #[v, .int .i64 k])) w' := ⟨v, by rw [hE], hs, hb⟩

theorem byt_zero (k : Nat) : Byt (List.replicate k 0) := fun x h => by
  rw [List.mem_replicate] at h
  omega

end Go.Proofs.Ytabopcfhonkecaa
