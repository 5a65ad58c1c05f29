/-
  Contract of disk.settle: the writes that are kept are sure, in their order; none waits. Condition: the disk lies in memory as said; what is handed in answers, and leaves all as it is.
-/
import Derived.Test.YtklhnibmpdaioaaDF
namespace Go.Proofs.Ytklhnibmpdaioaa
open Go.RowKit
/-- What is sure when the first writes are gone through. -/
def keepS (kp : Nat → Bool) (su : Nat → Option Nat) (ws : List (Nat × Nat)) : Nat → Nat → Option Nat
  | 0 => su
  | i + 1 => fun s => match ws[i]? with
    | some (a, y) => if kp i = true ∧ a = s then some y else keepS kp su ws i s
    | none => keepS kp su ws i s
/-- What is shown still. -/
def hideS (ws : List (Nat × Nat)) (i s : Nat) : Option Nat := if (ws.take i).any (fun a => a.1 == s) then none else lastW s ws
theorem lastW_none (s : Nat) : ∀ ws : List (Nat × Nat), ws.any (fun a => a.1 == s) = false → lastW s ws = none
  | [], _ => rfl
  | (a, b) :: r, h => by
    rw [List.any_cons, Bool.or_eq_false_iff] at h
    show (match lastW s r with | some y' => some y' | none => if a = s then some b else none) = none
    rw [lastW_none s r h.2]
    simp at h
    simp [h.1]
theorem hideS_all (ws : List (Nat × Nat)) (s : Nat) : hideS ws ws.length s = none := by
  unfold hideS
  rw [List.take_length]
  split
  · rfl
  · rename_i h
    exact lastW_none s ws ((Bool.not_eq_true _).mp h)
theorem hideS_zero (ws : List (Nat × Nat)) : hideS ws 0 = fun s => lastW s ws := by
  funext s
  unfold hideS
  simp
theorem take_any {ws : List (Nat × Nat)} {i : Nat} {a y : Nat} (h : ws[i]? = some (a, y)) (s : Nat) : (ws.take (i + 1)).any (fun b => b.1 == s) = ((ws.take i).any (fun b => b.1 == s) || (a == s)) := by
  obtain ⟨hi, he⟩ := List.getElem?_eq_some_iff.1 h
  rw [List.take_succ_eq_append_getElem hi, List.any_append, he]
  simp
theorem hideS_step {ws : List (Nat × Nat)} {i : Nat} {a y : Nat} (h : ws[i]? = some (a, y)) : hideS ws (i + 1) a = none ∧ ∀ j, j ≠ a → hideS ws (i + 1) j = hideS ws i j := by
  unfold hideS
  refine ⟨by rw [take_any h]; simp, fun j hj => ?_⟩
  rw [take_any h]
  have : (a == j) = false := by simp; omega
  rw [this, Bool.or_false]
theorem keepS_yes {kp : Nat → Bool} {su : Nat → Option Nat} {ws : List (Nat × Nat)} {i : Nat} {a y : Nat} (h : ws[i]? = some (a, y)) (hk : kp i = true) : keepS kp su ws (i + 1) a = some y ∧ ∀ j, j ≠ a → keepS kp su ws (i + 1) j = keepS kp su ws i j := by
  refine ⟨?_, fun j hj => ?_⟩
  · show (match ws[i]? with | some (a', y) => if kp i = true ∧ a' = a then some y else keepS kp su ws i a | none => keepS kp su ws i a) = some y
    rw [h]; simp [hk]
  · show (match ws[i]? with | some (a', y) => if kp i = true ∧ a' = j then some y else keepS kp su ws i j | none => keepS kp su ws i j) = _
    rw [h]
    show (if kp i = true ∧ a = j then some y else keepS kp su ws i j) = _
    rw [if_neg (by intro e; exact hj e.2.symm)]
theorem keepS_no {kp : Nat → Bool} {su : Nat → Option Nat} {ws : List (Nat × Nat)} {i : Nat} (hk : kp i = false) : keepS kp su ws (i + 1) = keepS kp su ws i := by
  funext s
  show (match ws[i]? with | some (a', y) => if kp i = true ∧ a' = s then some y else keepS kp su ws i s | none => keepS kp su ws i s) = _
  cases ws[i]? with
  | none => rfl
  | some b => obtain ⟨a, y⟩ := b; simp [hk]
theorem WS_at {w : World} : ∀ {ws : List (Nat × Nat)} {vs : List Value}, WS w ws vs → ∀ {i s y : Nat}, ws[i]? = some (s, y) → ∃ v, vs[i * 2]? = some (.int .u32 s) ∧ vs[i * 2 + 1]? = some v ∧ TX w v (tx y) ∧ s < 65536 ∧ y < 256
  | [], _, _, i, s, y, h => by simp at h
  | (a, b) :: r, vs, hw, i, s, y, h => by
    obtain ⟨v, vs', rfl, h1, h2, h3, h4⟩ := hw
    rcases i with _ | i
    · simp at h
      obtain ⟨rfl, rfl⟩ := h
      exact ⟨v, rfl, rfl, h2, h1, h3⟩
    · obtain ⟨u, k1, k2, k3⟩ := WS_at h4 (i := i) (s := s) (y := y) (by simpa using h)
      refine ⟨u, ?_, ?_, k3⟩
      · rw [show (i + 1) * 2 = i * 2 + 1 + 1 by omega]; simpa using k1
      · rw [show (i + 1) * 2 + 1 = i * 2 + 1 + 1 + 1 by omega]; simpa using k2
/-- A disk while its writes are gone through. -/
structure SK (w w' : World) (g N sb hb : Nat) (wv : Value) (su sh : Nat → Option Nat) (n : Nat) (ws : List (Nat × Nat)) (rg : List Value) (c p : Int) (d : Bool) (K : Nat) : Prop where
  row : w'.heap[g]? = some (.cells (dcells N sb hb wv rg c p d) 51 (0, 0))
  sure : ∃ m f, MapV Try.prog 23 w' sb m f ∧ m + ws.length ≤ K + n ∧ SM w' f su
  shown : ∃ m f, MapV Try.prog 23 w' hb m f ∧ m ≤ K ∧ SM w' f sh
  m : Mods (fun k => k = sb ∨ k = hb) w w'
section
variable {w w' w'' : World} {g N sb hb : Nat} {wv : Value} {su su' sh sh' : Nat → Option Nat} {n : Nat} {ws : List (Nat × Nat)} {rg : List Value} {c p : Int} {d : Bool} {K : Nat}
theorem SK.below (h : SK w w' g N sb hb wv su sh n ws rg c p d K) (b : Below w'.heap.size w' w'') : SK w w'' g N sb hb wv su sh n ws rg c p d K := by
  have m : Mods (fun _ => False) w' w'' := Mods.of_below b
  obtain ⟨n1, f1, m1, b1, s1⟩ := h.sure
  obtain ⟨n2, f2, m2, b2, s2⟩ := h.shown
  exact ⟨(m.block g (Array.getElem?_eq_some_iff.1 h.row).1 id).trans h.row, ⟨n1, f1, m1.mods m id, b1, s1.mods m (fun _ _ _ => id)⟩, ⟨n2, f2, m2.mods m id, b2, s2.mods m (fun _ _ _ => id)⟩, h.m.trans m (fun _ hf => hf.elim)⟩
theorem SK.kinds (h : SK w w' g N sb hb wv su sh n ws rg c p d K) : (∀ b cs, w'.heap[b]? = some (.cells cs 5 (0, 0)) → ¬ b = sb ∧ ¬ b = hb) ∧ g ≠ sb ∧ g ≠ hb := by
  obtain ⟨n1, f1, m1, b1, s1⟩ := h.sure
  obtain ⟨n2, f2, m2, b2, s2⟩ := h.shown
  obtain ⟨es1, k1, hm1⟩ := m1.isMap
  obtain ⟨es2, k2, hm2⟩ := m2.isMap
  refine ⟨fun b cs hb' => ⟨fun e => ?_, fun e => ?_⟩, fun e => ?_, fun e => ?_⟩
  · rw [e, hm1] at hb'; cases hb'
  · rw [e, hm2] at hb'; cases hb'
  · have := h.row; rw [e, hm1] at this; cases this
  · have := h.row; rw [e, hm2] at this; cases this
/-- One more is sure. -/
theorem SK.store (h : SK w w' g N sb hb wv su sh n ws rg c p d K) (hne : sb ≠ hb) (hK : K + n < 2000000) {s y : Nat} {v : Value} (hs : s < 65536) (hv : TX w' v (tx y)) (hy : y < 256) (h1 : su' s = some y) (h2 : ∀ j, j ≠ s → su' j = su j) :
    ∃ w'', (Instr.mapUpdate 48 (.map (some sb)) (.int .u32 s) v).run Try.prog w' = .ok () w'' ∧ SK w w'' g N sb hb wv su' sh (n + 1) ws rg c p d K ∧ Mods (fun k => k = sb) w' w'' := by
  obtain ⟨n1, f1, m1, b1, s1⟩ := h.sure
  obtain ⟨n2, f2, m2, b2, s2⟩ := h.shown
  obtain ⟨kb, kg1, kg2⟩ := h.kinds
  obtain ⟨w'', hst, m27, hm7, hz7⟩ := m1.store keyed23 Try.underlying48 (by unfold maxLen; omega) (v := v) (key23 s (by omega))
  have kA : ∀ b cs, w'.heap[b]? = some (.cells cs 5 (0, 0)) → ¬ b = sb := fun b cs hb' => (kb b cs hb').1
  refine ⟨w'', hst, ⟨(hm7.block g (Array.getElem?_eq_some_iff.1 h.row).1 kg1).trans h.row, ⟨_, _, m27, ?_, SM_upd (s1.mods hm7 kA) (hv.mods hm7 kA) hy h1 h2⟩, ⟨n2, f2, m2.mods hm7 hne.symm, b2, s2.mods hm7 kA⟩, h.m.trans hm7 (fun b hb => .inl (.inl hb))⟩, hm7⟩
  split <;> omega
/-- One sector shows what is sure. -/
theorem SK.drop (h : SK w w' g N sb hb wv su sh n ws rg c p d K) (hne : sb ≠ hb) {s : Nat} (hs : s < 65536) (h1 : sh' s = none) (h2 : ∀ j, j ≠ s → sh' j = sh j) :
    ∃ w'', (∀ ty, (Builtin.delete_ #[48, 23] ty #[.map (some hb), .int .u32 s]).run Try.prog w' = .ok (.tuple #[]) w'') ∧ SK w w'' g N sb hb wv su sh' n ws rg c p d K ∧ Mods (fun k => k = hb) w' w'' := by
  obtain ⟨n1, f1, m1, b1, s1⟩ := h.sure
  obtain ⟨n2, f2, m2, b2, s2⟩ := h.shown
  obtain ⟨kb, kg1, kg2⟩ := h.kinds
  obtain ⟨w'', hst, m27, hm7, hz7⟩ := m2.drop keyed23 Try.underlying48 (key23 s (by omega))
  have kA : ∀ b cs, w'.heap[b]? = some (.cells cs 5 (0, 0)) → ¬ b = hb := fun b cs hb' => (kb b cs hb').2
  refine ⟨w'', hst, ⟨(hm7.block g (Array.getElem?_eq_some_iff.1 h.row).1 kg2).trans h.row, ⟨n1, f1, m1.mods hm7 hne, b1, s1.mods hm7 kA⟩, ⟨_, _, m27, ?_, SM_del (s2.mods hm7 kA) h1 h2⟩, h.m.trans hm7 (fun b hb => .inl (.inr hb))⟩, hm7⟩
  split <;> omega
/-- The drawn number is of no matter. -/
theorem SK.drew (h : SK w w' g N sb hb wv su sh n ws rg c p d K) : SK w w'.drew g N sb hb wv su sh n ws rg c p d K :=
  h.below ⟨rfl, rfl, rfl, Nat.le_refl _, fun _ _ => rfl⟩
end
end Go.Proofs.Ytklhnibmpdaioaa
