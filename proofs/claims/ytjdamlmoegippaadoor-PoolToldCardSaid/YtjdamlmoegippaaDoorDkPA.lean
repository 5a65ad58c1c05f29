/-
  A disk in memory whose texts lie in blocks of a kind: as text DA. Condition: none.
-/
import Derived.Test.YtjdamlmoegippaaDoorDkDTa
namespace Go.Proofs.YtjdamlmoegippaaDoor.dk.pv
open Go.RowKit
variable {P : Nat → Prop}
/-- A slice that has a block of its own, and its bytes. -/
def TX (P : Nat → Prop) (w : World) (v : Value) (xs : List Nat) : Prop := ∃ b, P b ∧ v = .slice (some ⟨b, 0, none⟩) xs.length xs.length ∧ w.heap[b]? = some (.cells (bcells xs) 5 (0, 0))
theorem TX.old {w : World} {v : Value} {xs : List Nat} (h : TX P w v xs) : Go.Proofs.YtjdamlmoegippaaDoor.dk.TX w v xs := by
  obtain ⟨b, _, e, h1⟩ := h
  exact ⟨b, e, h1⟩
theorem TX.lt {w : World} {v : Value} {xs : List Nat} (h : TX P w v xs) : ∃ b, v = .slice (some ⟨b, 0, none⟩) xs.length xs.length ∧ b < w.heap.size := by
  obtain ⟨b, hP, rfl, h1⟩ := h
  exact ⟨b, rfl, (Array.getElem?_eq_some_iff.1 h1).1⟩
theorem TX.mods {S : Nat → Prop} {w w' : World} {v : Value} {xs : List Nat} (h : TX P w v xs) (m : Mods S w w') (hS : ∀ b cs, w.heap[b]? = some (.cells cs 5 (0, 0)) → ¬ S b) : TX P w' v xs := by
  obtain ⟨b, hP, rfl, h1⟩ := h
  exact ⟨b, hP, rfl, (m.block b (Array.getElem?_eq_some_iff.1 h1).1 (hS b _ h1)).trans h1⟩
theorem TX.below {w w' : World} {v : Value} {xs : List Nat} (h : TX P w v xs) (hb : Below w.heap.size w w') : TX P w' v xs :=
  h.mods (S := fun _ => False) (Mods.of_below hb) (fun _ _ _ => id)
theorem TX.heap {w w' : World} {v : Value} {xs : List Nat} (h : TX P w v xs) (e : w'.heap = w.heap) : TX P w' v xs := by
  obtain ⟨b, hP, rfl, h1⟩ := h
  exact ⟨b, hP, rfl, by rw [e]; exact h1⟩
/-- What a map of sectors has. -/
def SM (P : Nat → Prop) (w : World) (f : Lit → Option Value) (su : Nat → Option Nat) : Prop :=
  ∀ s : Nat, (su s = none ∧ f (.int .u32 s) = none) ∨ ∃ y v, su s = some y ∧ f (.int .u32 s) = some v ∧ TX P w v (tx y) ∧ YB y
/-- Writes that wait, in order, as cells. -/
def WS (P : Nat → Prop) (w : World) : List (Nat × Nat) → List Value → Prop
  | [], vs => vs = []
  | (s, y) :: r, vs => ∃ v vs', vs = .int .u32 s :: v :: vs' ∧ s < 65536 ∧ TX P w v (tx y) ∧ YB y ∧ WS P w r vs'
/-- A disk in memory: what is sure, what waits, the register, calls, plan, down. -/
structure DK (P : Nat → Prop) (w : World) (g N sb hb : Nat) (wv : Value) (su : Nat → Option Nat) (ws : List (Nat × Nat)) (rg : List Value) (c p : Int) (d : Bool) (K : Nat) : Prop where
  n1 : 1 ≤ N
  n2 : N ≤ 65536
  row : w.heap[g]? = some (.cells (dcells N sb hb wv rg c p d) 94 (0, 0))
  len : rg.length = 64
  sure : ∃ n f, MapV Tryd.prog 22 w sb n f ∧ n + ws.length ≤ K ∧ SM P w f su
  shown : ∃ n f, MapV Tryd.prog 22 w hb n f ∧ n ≤ K ∧ SM P w f (fun s => lastW s ws)
  waits : ∃ vs, WR w wv ws.length vs ∧ WS P w ws vs
  ne : sb ≠ hb
  wl : K ≤ 1000000
/-- Nothing of a disk's own is of bytes. -/
def Dt (g sb hb : Nat) (wv : Value) : Nat → Prop := fun k => k = g ∨ k = sb ∨ k = hb ∨ wv.ownBlock = some k
theorem SM.mods {S : Nat → Prop} {w w' : World} {f : Lit → Option Value} {su : Nat → Option Nat} (h : SM P w f su) (m : Mods S w w') (hS : ∀ b cs, w.heap[b]? = some (.cells cs 5 (0, 0)) → ¬ S b) : SM P w' f su := fun s => by
  rcases h s with h1 | ⟨y, v, h1, h2, h3, h4⟩
  · exact .inl h1
  · exact .inr ⟨y, v, h1, h2, h3.mods m hS, h4⟩
theorem WS.mods {S : Nat → Prop} {w w' : World} (m : Mods S w w') (hS : ∀ b cs, w.heap[b]? = some (.cells cs 5 (0, 0)) → ¬ S b) : ∀ {ws : List (Nat × Nat)} {vs : List Value}, WS P w ws vs → WS P w' ws vs
  | [], _, h => h
  | (s, y) :: r, _, h => by
    obtain ⟨v, vs', e, h1, h2, h3, h4⟩ := h
    exact ⟨v, vs', e, h1, h2.mods m hS, h3, WS.mods m hS h4⟩
theorem WR.lt {w : World} {wv : Value} {n : Nat} {vs : List Value} (h : WR w wv n vs) : ∀ k, wv.ownBlock = some k → k < w.heap.size ∧ ∃ cs, w.heap[k]? = some (.cells cs 100 (0, 0)) := by
  intro k hk
  rcases h.2.2 with ⟨rfl, _⟩ | ⟨b, o, cap, cs, rfl, hg, _⟩
  · simp [Value.ownBlock] at hk
  · simp [Value.ownBlock] at hk
    subst hk
    exact ⟨(Array.getElem?_eq_some_iff.1 hg).1, cs, hg⟩
theorem WR.mods {S : Nat → Prop} {w w' : World} {wv : Value} {n : Nat} {vs : List Value} (h : WR w wv n vs) (m : Mods S w w') (hS : ∀ k, wv.ownBlock = some k → ¬ S k) : WR w' wv n vs := by
  refine ⟨h.1, h.2.1, ?_⟩
  rcases h.2.2 with h1 | ⟨b, o, cap, cs, rfl, hg, r⟩
  · exact .inl h1
  · exact .inr ⟨b, o, cap, cs, rfl, (m.block b (Array.getElem?_eq_some_iff.1 hg).1 (hS b rfl)).trans hg, r⟩
theorem WR.form {w : World} {wv : Value} {n : Nat} {vs : List Value} (h : WR w wv n vs) : ∃ x c, wv = .slice x n c ∧ n ≤ c ∧ c ≤ maxLen := by
  rcases h.2.2 with ⟨rfl, rfl⟩ | ⟨b, o, cap, cs, rfl, _, _, h1, h2, _⟩
  · exact ⟨_, _, rfl, Nat.le_refl _, by simp [maxLen]⟩
  · exact ⟨_, _, rfl, h1, h2⟩
section
variable {w w' : World} {g N sb hb : Nat} {wv : Value} {su : Nat → Option Nat} {ws : List (Nat × Nat)} {rg : List Value} {c p : Int} {d : Bool} {K : Nat}
theorem DK.lt (h : DK P w g N sb hb wv su ws rg c p d K) : g < w.heap.size := (Array.getElem?_eq_some_iff.1 h.row).1
theorem DK.c0 (h : DK P w g N sb hb wv su ws rg c p d K) : w.cell? ⟨g, 0, none⟩ = some (.int .i64 N) := by rw [cell_of_row _ _ _ _ _ _ h.row]; rfl
theorem DK.c1 (h : DK P w g N sb hb wv su ws rg c p d K) : w.cell? ⟨g, 1, none⟩ = some (.map (some sb)) := by rw [cell_of_row _ _ _ _ _ _ h.row]; rfl
theorem DK.c2 (h : DK P w g N sb hb wv su ws rg c p d K) : w.cell? ⟨g, 2, none⟩ = some (.map (some hb)) := by rw [cell_of_row _ _ _ _ _ _ h.row]; rfl
theorem DK.c3 (h : DK P w g N sb hb wv su ws rg c p d K) : w.cell? ⟨g, 3, none⟩ = some wv := by rw [cell_of_row _ _ _ _ _ _ h.row]; rfl
theorem DK.c68 (h : DK P w g N sb hb wv su ws rg c p d K) : w.cell? ⟨g, 68, none⟩ = some (.int .i64 c) := by rw [cell_of_row _ _ _ _ _ _ h.row]; exact dcells_68 h.len
theorem DK.c69 (h : DK P w g N sb hb wv su ws rg c p d K) : w.cell? ⟨g, 69, none⟩ = some (.int .i64 p) := by rw [cell_of_row _ _ _ _ _ _ h.row]; exact dcells_69 h.len
theorem DK.c70 (h : DK P w g N sb hb wv su ws rg c p d K) : w.cell? ⟨g, 70, none⟩ = some (.bool d) := by rw [cell_of_row _ _ _ _ _ _ h.row]; exact dcells_70 h.len
theorem DK.fz (h : DK P w g N sb hb wv su ws rg c p d K) (i : Nat) : w.frozen? ⟨g, i, none⟩ = false := by simp [World.frozen?, h.row]
/-- The disk's own blocks are of other kinds than bytes, and apart. -/
theorem DK.kinds (h : DK P w g N sb hb wv su ws rg c p d K) : (∀ b cs, w.heap[b]? = some (.cells cs 5 (0, 0)) → ¬ Dt g sb hb wv b) ∧ g ≠ sb ∧ g ≠ hb ∧ (∀ k, wv.ownBlock = some k → k ≠ g ∧ k ≠ sb ∧ k ≠ hb) := by
  obtain ⟨n1, f1, m1, _⟩ := h.sure
  obtain ⟨n2, f2, m2, _⟩ := h.shown
  obtain ⟨vs, r, _⟩ := h.waits
  obtain ⟨es1, k1, hm1⟩ := m1.isMap
  obtain ⟨es2, k2, hm2⟩ := m2.isMap
  have hr := h.row
  refine ⟨fun b cs hb hd => ?_, fun e => ?_, fun e => ?_, fun k hk => ?_⟩
  · rcases hd with rfl | rfl | rfl | hd
    · rw [hr] at hb; injection hb with hb; injection hb with _ hb; cases hb
    · rw [hm1] at hb; cases hb
    · rw [hm2] at hb; cases hb
    · obtain ⟨_, cs', hc⟩ := r.lt b hd
      rw [hc] at hb; injection hb with hb; injection hb with _ hb; cases hb
  · rw [← e, hr] at hm1; cases hm1
  · rw [← e, hr] at hm2; cases hm2
  · obtain ⟨_, cs', hc⟩ := r.lt k hk
    refine ⟨fun e => ?_, fun e => ?_, fun e => ?_⟩
    · rw [e, hr] at hc; injection hc with hc; injection hc with _ hc; cases hc
    · rw [e, hm1] at hc; cases hc
    · rw [e, hm2] at hc; cases hc
theorem DK.below (h : DK P w g N sb hb wv su ws rg c p d K) (b : Below w.heap.size w w') : DK P w' g N sb hb wv su ws rg c p d K := by
  have m : Mods (fun _ => False) w w' := Mods.of_below b
  obtain ⟨n1, f1, m1, b1, s1⟩ := h.sure
  obtain ⟨n2, f2, m2, b2, s2⟩ := h.shown
  obtain ⟨vs, r, q⟩ := h.waits
  exact ⟨h.n1, h.n2, (m.block g h.lt id).trans h.row, h.len, ⟨n1, f1, m1.mods m id, b1, s1.mods m (fun _ _ _ => id)⟩, ⟨n2, f2, m2.mods m id, b2, s2.mods m (fun _ _ _ => id)⟩, ⟨vs, r.mods m (fun _ _ => id), WS.mods m (fun _ _ _ => id) q⟩, h.ne, h.wl⟩
theorem DK.heap (h : DK P w g N sb hb wv su ws rg c p d K) (e : w'.heap = w.heap) : DK P w' g N sb hb wv su ws rg c p d K := by
  obtain ⟨n1, f1, m1, b1, s1⟩ := h.sure
  obtain ⟨n2, f2, m2, b2, s2⟩ := h.shown
  obtain ⟨vs, r, q⟩ := h.waits
  have m : Mods (fun _ => False) { w with heap := w.heap } { w with heap := w'.heap } := ⟨rfl, rfl, rfl, by rw [e]; exact Nat.le_refl _, fun k _ _ => by rw [e]⟩
  have s1' := s1.mods m (fun _ _ _ => id)
  have s2' := s2.mods m (fun _ _ _ => id)
  have r' := r.mods m (fun _ _ => id)
  have q' := WS.mods m (fun _ _ _ => id) q
  refine ⟨h.n1, h.n2, by rw [e]; exact h.row, h.len, ⟨n1, f1, m1.same (by rw [e]), b1, fun s => ?_⟩, ⟨n2, f2, m2.same (by rw [e]), b2, fun s => ?_⟩, ⟨vs, ⟨r'.1, r'.2.1, r'.2.2⟩, ?_⟩, h.ne, h.wl⟩
  · rcases s1 s with h1 | ⟨y, v, h1, h2, h3, h4⟩
    · exact .inl h1
    · exact .inr ⟨y, v, h1, h2, h3.heap e, h4⟩
  · rcases s2 s with h1 | ⟨y, v, h1, h2, h3, h4⟩
    · exact .inl h1
    · exact .inr ⟨y, v, h1, h2, h3.heap e, h4⟩
  · clear r' q' s1' s2' m r
    induction ws generalizing vs with
    | nil => exact q
    | cons a r ih =>
      obtain ⟨v, vs', e1, h1, h2, h3, h4⟩ := q
      refine ⟨v, vs', e1, h1, h2.heap e, h3, ?_⟩
      have : ∀ (l : List (Nat × Nat)) (us : List Value), WS P w l us → WS P w' l us := by
        intro l
        induction l with
        | nil => exact fun _ h => h
        | cons a l ih => intro us ⟨v, vs', e1, h1, h2, h3, h4⟩; exact ⟨v, vs', e1, h1, h2.heap e, h3, ih _ h4⟩
      exact this r vs' h4
/-- Only the disk's own cells are turned: a number of calls, the plan, whether it is down. -/
theorem DK.reset (h : DK P w g N sb hb wv su ws rg c p d K) {c' p' : Int} {d' : Bool} (row' : w'.heap[g]? = some (.cells (dcells N sb hb wv rg c' p' d') 94 (0, 0))) (m : Mods (fun k => k = g) w w') : DK P w' g N sb hb wv su ws rg c' p' d' K := by
  obtain ⟨n1, f1, m1, b1, s1⟩ := h.sure
  obtain ⟨n2, f2, m2, b2, s2⟩ := h.shown
  obtain ⟨vs, r, q⟩ := h.waits
  obtain ⟨k1, k2, k3, k4⟩ := h.kinds
  have kb : ∀ b cs, w.heap[b]? = some (.cells cs 5 (0, 0)) → ¬ b = g := fun b cs hb e => k1 b cs hb (.inl e)
  exact ⟨h.n1, h.n2, row', h.len, ⟨n1, f1, m1.mods m (fun e => k2 e.symm), b1, s1.mods m kb⟩, ⟨n2, f2, m2.mods m (fun e => k3 e.symm), b2, s2.mods m kb⟩, ⟨vs, r.mods m (fun k hk => (k4 k hk).1), WS.mods m kb q⟩, h.ne, h.wl⟩
theorem row_set (h : w.heap[g]? = some (.cells (dcells N sb hb wv rg c p d) 94 (0, 0))) (i : Nat) (v : Value) : (w.setCell ⟨g, i, none⟩ v).heap[g]? = some (.cells ((dcells N sb hb wv rg c p d).setIfInBounds i v) 94 (0, 0)) := by
  simp [World.setCell, Array.getElem?_modify, h]
end
end Go.Proofs.YtjdamlmoegippaaDoor.dk.pv
