/-
  Steps of disk.settle, as text DG, for texts in blocks of a kind. Condition: the disk lies in memory as said.
-/
import Derived.Test.YtklhnibmpdaioaaPF
namespace Go.Proofs.Ytklhnibmpdaioaa.pv
open Go.RowKit
variable {P : Nat → Prop}
theorem WS_at {w : World} : ∀ {ws : List (Nat × Nat)} {vs : List Value}, WS P w ws vs → ∀ {i s y : Nat}, ws[i]? = some (s, y) → ∃ v, vs[i * 2]? = some (.int .u32 s) ∧ vs[i * 2 + 1]? = some v ∧ TX P w v (tx y) ∧ s < 65536 ∧ y < 256
  | [], _, _, i, s, y, h => by simp at h
  | (a, b) :: r, vs, hw, i, s, y, h => by
    obtain ⟨v, vs', rfl, h1, h2, h3, h4⟩ := hw
    rcases i with _ | i
    · simp at h
      obtain ⟨rfl, rfl⟩ := h
      exact ⟨v, rfl, rfl, h2, h1, h3⟩
    · obtain ⟨u, k1, k2, k3⟩ := WS_at h4 (i := i) (s := s) (y := y) (by simpa using h)
      refine ⟨u, ?_, ?_, k3⟩
      · rw [show (i + 1) * 2 = i * 2 + 1 + 1 by omega]; simpa using k1
      · rw [show (i + 1) * 2 + 1 = i * 2 + 1 + 1 + 1 by omega]; simpa using k2
/-- A disk while its writes are gone through. -/
structure SK (P : Nat → Prop) (w w' : World) (g N sb hb : Nat) (wv : Value) (su sh : Nat → Option Nat) (n : Nat) (ws : List (Nat × Nat)) (rg : List Value) (c p : Int) (d : Bool) (K : Nat) : Prop where
  row : w'.heap[g]? = some (.cells (dcells N sb hb wv rg c p d) 51 (0, 0))
  sure : ∃ m f, MapV Try.prog 23 w' sb m f ∧ m + ws.length ≤ K + n ∧ SM P w' f su
  shown : ∃ m f, MapV Try.prog 23 w' hb m f ∧ m ≤ K ∧ SM P w' f sh
  m : Mods (fun k => k = sb ∨ k = hb) w w'
section
variable {w w' w'' : World} {g N sb hb : Nat} {wv : Value} {su su' sh sh' : Nat → Option Nat} {n : Nat} {ws : List (Nat × Nat)} {rg : List Value} {c p : Int} {d : Bool} {K : Nat}
theorem SK.below (h : SK P w w' g N sb hb wv su sh n ws rg c p d K) (b : Below w'.heap.size w' w'') : SK P w w'' g N sb hb wv su sh n ws rg c p d K := by
  have m : Mods (fun _ => False) w' w'' := Mods.of_below b
  obtain ⟨n1, f1, m1, b1, s1⟩ := h.sure
  obtain ⟨n2, f2, m2, b2, s2⟩ := h.shown
  exact ⟨(m.block g (Array.getElem?_eq_some_iff.1 h.row).1 id).trans h.row, ⟨n1, f1, m1.mods m id, b1, s1.mods m (fun _ _ _ => id)⟩, ⟨n2, f2, m2.mods m id, b2, s2.mods m (fun _ _ _ => id)⟩, h.m.trans m (fun _ hf => hf.elim)⟩
theorem SK.kinds (h : SK P w w' g N sb hb wv su sh n ws rg c p d K) : (∀ b cs, w'.heap[b]? = some (.cells cs 5 (0, 0)) → ¬ b = sb ∧ ¬ b = hb) ∧ g ≠ sb ∧ g ≠ hb := by
  obtain ⟨n1, f1, m1, b1, s1⟩ := h.sure
  obtain ⟨n2, f2, m2, b2, s2⟩ := h.shown
  obtain ⟨es1, k1, hm1⟩ := m1.isMap
  obtain ⟨es2, k2, hm2⟩ := m2.isMap
  refine ⟨fun b cs hb' => ⟨fun e => ?_, fun e => ?_⟩, fun e => ?_, fun e => ?_⟩
  · rw [e, hm1] at hb'; cases hb'
  · rw [e, hm2] at hb'; cases hb'
  · have := h.row; rw [e, hm1] at this; cases this
  · have := h.row; rw [e, hm2] at this; cases this
/-- One more is sure. -/
theorem SK.store (h : SK P w w' g N sb hb wv su sh n ws rg c p d K) (hne : sb ≠ hb) (hK : K + n < 2000000) {s y : Nat} {v : Value} (hs : s < 65536) (hv : TX P w' v (tx y)) (hy : y < 256) (h1 : su' s = some y) (h2 : ∀ j, j ≠ s → su' j = su j) :
    ∃ w'', (Instr.mapUpdate 48 (.map (some sb)) (.int .u32 s) v).run Try.prog w' = .ok () w'' ∧ SK P w w'' g N sb hb wv su' sh (n + 1) ws rg c p d K ∧ Mods (fun k => k = sb) w' w'' := by
  obtain ⟨n1, f1, m1, b1, s1⟩ := h.sure
  obtain ⟨n2, f2, m2, b2, s2⟩ := h.shown
  obtain ⟨kb, kg1, kg2⟩ := h.kinds
  obtain ⟨w'', hst, m27, hm7, hz7⟩ := m1.store keyed23 Try.underlying48 (by unfold maxLen; omega) (v := v) (key23 s (by omega))
  have kA : ∀ b cs, w'.heap[b]? = some (.cells cs 5 (0, 0)) → ¬ b = sb := fun b cs hb' => (kb b cs hb').1
  refine ⟨w'', hst, ⟨(hm7.block g (Array.getElem?_eq_some_iff.1 h.row).1 kg1).trans h.row, ⟨_, _, m27, ?_, SM_upd (s1.mods hm7 kA) (hv.mods hm7 kA) hy h1 h2⟩, ⟨n2, f2, m2.mods hm7 hne.symm, b2, s2.mods hm7 kA⟩, h.m.trans hm7 (fun b hb => .inl (.inl hb))⟩, hm7⟩
  split <;> omega
/-- One sector shows what is sure. -/
theorem SK.drop (h : SK P w w' g N sb hb wv su sh n ws rg c p d K) (hne : sb ≠ hb) {s : Nat} (hs : s < 65536) (h1 : sh' s = none) (h2 : ∀ j, j ≠ s → sh' j = sh j) :
    ∃ w'', (∀ ty, (Builtin.delete_ #[48, 23] ty #[.map (some hb), .int .u32 s]).run Try.prog w' = .ok (.tuple #[]) w'') ∧ SK P w w'' g N sb hb wv su sh' n ws rg c p d K ∧ Mods (fun k => k = hb) w' w'' := by
  obtain ⟨n1, f1, m1, b1, s1⟩ := h.sure
  obtain ⟨n2, f2, m2, b2, s2⟩ := h.shown
  obtain ⟨kb, kg1, kg2⟩ := h.kinds
  obtain ⟨w'', hst, m27, hm7, hz7⟩ := m2.drop keyed23 Try.underlying48 (key23 s (by omega))
  have kA : ∀ b cs, w'.heap[b]? = some (.cells cs 5 (0, 0)) → ¬ b = hb := fun b cs hb' => (kb b cs hb').2
  refine ⟨w'', hst, ⟨(hm7.block g (Array.getElem?_eq_some_iff.1 h.row).1 kg2).trans h.row, ⟨n1, f1, m1.mods hm7 hne, b1, s1.mods hm7 kA⟩, ⟨_, _, m27, ?_, SM_del (s2.mods hm7 kA) h1 h2⟩, h.m.trans hm7 (fun b hb => .inl (.inr hb))⟩, hm7⟩
  split <;> omega
/-- The drawn number is of no matter. -/
theorem SK.drew (h : SK P w w' g N sb hb wv su sh n ws rg c p d K) : SK P w w'.drew g N sb hb wv su sh n ws rg c p d K :=
  h.below ⟨rfl, rfl, rfl, Nat.le_refl _, fun _ _ => rfl⟩
end
end Go.Proofs.Ytklhnibmpdaioaa.pv
