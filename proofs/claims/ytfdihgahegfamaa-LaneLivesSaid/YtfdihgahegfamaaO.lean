/-
  A ring of ints beside a slice of ints of the call's own: what pushes, pops and appends make of both. Condition: they share no memory.
-/
import Derived.Test.YtfdihgahegfamaaL
namespace Go.Proofs.Ytfdihgahegfamaa
open Go.RowKit
abbrev zv (l : List Int) : List Value := l.map (Value.int .i64)
/-- A ring that has R, beside a slice u that reads ins; both lie from base on, apart. -/
structure Ord (w0 : World) (wr : World) (g N : Nat) (u : Value) (ins : List Int) (v : Value) (R : List Int) : Prop where
  rg : RG 97 3 1 wr g N v R.length (R.map (Value.int .i64))
  rw' : Rw wr 3 1 u ins.length (ins.map (Value.int .i64))
  apart : ∀ k, v.ownBlock = some k → u.ownBlock ≠ some k
  hg : w0.heap.size ≤ g
  hv : ∀ k, v.ownBlock = some k → w0.heap.size ≤ k
  hu : ∀ k, u.ownBlock = some k → w0.heap.size ≤ k
  hb : Below w0.heap.size w0 wr
section
variable {w0 wr w' : World} {g N : Nat} {u v : Value} {ins R : List Int}
theorem Ord.off (h : Ord w0 wr g N u ins v R) : ∀ k, u.ownBlock = some k → ¬ Ft g v k := by
  intro k hk hf
  rcases hf with rfl | hf
  · exact h.rw'.ty h.rg.1 (by decide) hk
  · exact h.apart k hf hk
/-- The ring is turned. -/
theorem Ord.turn (h : Ord w0 wr g N u ins v R) {v' : Value} {R' : List Int} (hr : RG 97 3 1 w' g N v' R'.length (R'.map (Value.int .i64))) (hm : Mods (Ft g v) wr w') (ha : Anew wr v v') : Ord w0 w' g N u ins v' R' where
  rg := hr
  rw' := h.rw'.mods hm h.off
  apart := fun k hk hk' => by
    rcases ha k hk with h1 | h1
    · exact h.apart k h1 hk'
    · have := h.rw'.lt k hk'; omega
  hg := h.hg
  hv := ha.own h.hv h.hb.size
  hu := h.hu
  hb := Mods.ft h.hb hm h.hb.size h.hg h.hv
/-- The slice is turned. -/
theorem Ord.turnu (h : Ord w0 wr g N u ins v R) {u' : Value} {ins' : List Int} (hr : Rw w' 3 1 u' ins'.length (ins'.map (Value.int .i64))) (hm : Mods (fun k => u.ownBlock = some k) wr w') (ha : Anew wr u u') : Ord w0 w' g N u' ins' v R where
  rg := h.rg.mods hm (fun e => h.off g e (.inl rfl)) (fun k hk e => h.apart k hk e)
  rw' := hr
  apart := fun k hk hk' => by
    rcases ha k hk' with h1 | h1
    · exact h.apart k hk h1
    · have := h.rg.2.lt k hk; omega
  hg := h.hg
  hv := h.hv
  hu := ha.own h.hu h.hb.size
  hb := Mods.below h.hb hm h.hb.size h.hu
theorem Ord.below (h : Ord w0 wr g N u ins v R) (hb : Below wr.heap.size wr w') : Ord w0 w' g N u ins v R where
  rg := h.rg.below hb
  rw' := h.rw'.mods (S := fun _ => False) (Mods.of_below hb) (fun _ _ => id)
  apart := h.apart
  hg := h.hg
  hv := h.hv
  hu := h.hu
  hb := h.hb.trans (hb.mono h.hb.size)
/-- One number more behind the slice: the run. -/
theorem Rw.pushI {w : World} {v : Value} {xs : List Int} (h : Rw w 3 1 v xs.length (xs.map (Value.int .i64))) (x : Int) (hn : xs.length + 1 ≤ 1000000) :
    ∃ y c w1, (Builtin.append_ #[29, 29] 29 #[v, .slice (some ⟨w.heap.size, 0, none⟩) 1 1]).run Try.prog (w.alloc (.cells #[.int .i64 x] 3)) = .ok (.slice y (xs.length + 1) c) w1 ∧
      Rw w1 3 1 (.slice y (xs.length + 1) c) (xs ++ [x]).length ((xs ++ [x]).map (Value.int .i64)) ∧ Mods (fun k => v.ownBlock = some k) w w1 ∧ Anew w v (.slice y (xs.length + 1) c) := by
  obtain ⟨i, hi, hz0, hz1, hz2⟩ := info_parts info3
  have hnew := heap_alloc_new w (.cells #[.int .i64 x] 3)
  have hr0 : Rw (w.alloc (.cells #[.int .i64 x] 3)) 3 1 v xs.length (xs.map (Value.int .i64)) := h.mods (S := fun _ => False) (Mods.alloc _ _) (fun _ _ => id)
  obtain ⟨v', w1, hrun, r1, r2, r3⟩ := hr0.push Try.underlying29 hi hz0 hz1 hz2 rfl (by decide) ⟨w.heap.size, 0, none⟩ 1 1 [.int .i64 x] rfl
    (fun j u hj => by rw [addr_add, cell_of_row _ _ _ _ _ _ hnew]; rcases j with _ | j <;> simp at hj ⊢; exact hj) (by simp [Value.oneCell']) (by unfold maxLen; omega) (by omega) (by omega)
  obtain ⟨y, c, rfl, _, _⟩ := r1.form
  refine ⟨y, c, w1, hrun, by simpa using r1, (Mods.alloc w _).trans r2 (fun b hb => .inl hb), fun k hk => ?_⟩
  rcases r3 with r3 | ⟨k', h1, h2⟩
  · rw [r3] at hk; exact .inl hk
  · rw [h1] at hk
    obtain rfl := Option.some.inj hk
    simp at h2
    exact .inr (by omega)
end
theorem take_push {ins : List Int} {a : Nat} (h : a ≤ ins.length) (x : Int) : ins.drop a ++ [x] = (ins ++ [x]).drop a := by
  rw [List.drop_append_of_le_length h]
end Go.Proofs.Ytfdihgahegfamaa
