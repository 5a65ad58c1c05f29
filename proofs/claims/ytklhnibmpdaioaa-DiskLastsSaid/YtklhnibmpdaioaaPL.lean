/-
  What the law DiskLasts has in memory: its disk, what it holds to be sure and to wait, and its register. Condition: none.
-/
import Derived.Test.YtklhnibmpdaioaaPK
import Derived.Test.YtklhnibmpdaioaaDSh
namespace Go.Proofs.Ytklhnibmpdaioaa.pv
open Go.RowKit
/-- Bytes as cells. -/
def bc (xs : List Nat) : List Value := xs.map (fun n : Nat => Value.int .u8 (n : Int))
theorem bc_len (xs : List Nat) : (bc xs).length = xs.length := List.length_map _
theorem bc_app (xs ys : List Nat) : bc (xs ++ ys) = bc xs ++ bc ys := List.map_append
theorem bc_at {xs : List Nat} {i y : Nat} (h : xs[i]? = some y) : (bc xs)[i]? = some (.int .u8 y) := by unfold bc; rw [List.getElem?_map, h]; rfl
/-- Four slices as cells. -/
def arrV (V : Nat → Value) : Array Value := #[V 0, V 1, V 2, V 3]
/-- One of them is another. -/
def updV {α : Type} (V : Nat → α) (s : Nat) (v : α) : Nat → α := fun j => if j = s then v else V j
theorem arrV_at (V : Nat → Value) (i : Nat) (h : i < 4) : (arrV V)[i]? = some (V i) := by
  rcases i with _ | _ | _ | _ | i
  · rfl
  · rfl
  · rfl
  · rfl
  · omega
theorem arrV_set (V : Nat → Value) (i : Nat) (v : Value) (h : i < 4) : (arrV V).setIfInBounds i v = arrV (updV V i v) := by
  rcases i with _ | _ | _ | _ | i
  · rfl
  · rfl
  · rfl
  · rfl
  · omega
/-- Blocks in which none of four slices lies. -/
def NR (V : Nat → Value) (b : Nat) : Prop := ∀ k, k < 4 → (V k).ownBlock ≠ some b
/-- What the law has in memory. -/
structure LS (w0 w : World) (g sb hb : Nat) (wv : Value) (su : Nat → Option Nat) (ws : List (Nat × Nat)) (rg : List Value) (c p : Int) (d : Bool) (K : Nat) (a7 a8 a9 : Nat) (V : Nat → Value) (R : Nat → List Nat) (f : Nat → Nat) (lg : List Value) : Prop where
  lk : LK (NR V) w0 w g 4 sb hb wv su ws rg c p d K
  r7 : w.heap[a7]? = some (.cells (arr4 f) 58 (0, 0))
  r8 : w.heap[a8]? = some (.cells (arrV V) 59 (0, 0))
  r9 : w.heap[a9]? = some (.cells lg.toArray 44 (0, 0))
  rw : ∀ k, k < 4 → Rw w 5 1 (V k) (R k).length (bc (R k))
  ap : ∀ i j, i < 4 → j < 4 → i ≠ j → ∀ b, (V i).ownBlock = some b → (V j).ownBlock ≠ some b
  own : ∀ k, k < 4 → ∀ b, (V k).ownBlock = some b → w0.heap.size ≤ b
  o7 : w0.heap.size ≤ a7
  o8 : w0.heap.size ≤ a8
  o9 : w0.heap.size ≤ a9
section
variable {w0 w w' : World} {g sb hb : Nat} {wv wv' : Value} {su su' : Nat → Option Nat} {ws ws' : List (Nat × Nat)} {rg rg' lg lg' : List Value} {c p c' p' : Int} {d d' : Bool} {K K' : Nat} {a7 a8 a9 : Nat} {V : Nat → Value} {R : Nat → List Nat} {f : Nat → Nat}
theorem Rw.five {v : Value} {n : Nat} {xs : List Value} (h : Rw w 5 1 v n xs) {b : Nat} (hb : v.ownBlock = some b) : ∃ cs, w.heap[b]? = some (.cells cs 5 (0, 0)) := by
  rcases h.2.2 with ⟨rfl, _⟩ | ⟨b', o, cap, cs, rfl, hg, _⟩
  · simp [Value.ownBlock] at hb
  · have : b' = b := by simpa [Value.ownBlock] using hb
    subst this; exact ⟨cs, hg⟩
theorem LS.fresh (h : LS w0 w g sb hb wv su ws rg c p d K a7 a8 a9 V R f lg) : ∀ b, w.heap.size ≤ b → NR V b := fun b hb' k hk e => by
  have := (h.rw k hk).lt b e; omega
theorem LS.below (h : LS w0 w g sb hb wv su ws rg c p d K a7 a8 a9 V R f lg) (b : Below w.heap.size w w') : LS w0 w' g sb hb wv su ws rg c p d K a7 a8 a9 V R f lg :=
  ⟨h.lk.below b, (b.block _ (Array.getElem?_eq_some_iff.1 h.r7).1).trans h.r7, (b.block _ (Array.getElem?_eq_some_iff.1 h.r8).1).trans h.r8, (b.block _ (Array.getElem?_eq_some_iff.1 h.r9).1).trans h.r9,
    fun k hk => (h.rw k hk).mods (S := fun _ => False) (Mods.of_below b) (fun _ _ => id), h.ap, h.own, h.o7, h.o8, h.o9⟩
theorem LS.step (h : LS w0 w g sb hb wv su ws rg c p d K a7 a8 a9 V R f lg) (k : DkW (NR V) w w' g 4 sb hb wv wv' su' ws' rg' c' p' d' K') : LS w0 w' g sb hb wv' su' ws' rg' c' p' d' K' a7 a8 a9 V R f lg := by
  have n7 := h.lk.dk.not h.r7 (by decide) (by decide)
  have n8 := h.lk.dk.not h.r8 (by decide) (by decide)
  have n9 := h.lk.dk.not h.r9 (by decide) (by decide)
  exact ⟨h.lk.step k, (k.m.block _ (Array.getElem?_eq_some_iff.1 h.r7).1 n7).trans h.r7, (k.m.block _ (Array.getElem?_eq_some_iff.1 h.r8).1 n8).trans h.r8, (k.m.block _ (Array.getElem?_eq_some_iff.1 h.r9).1 n9).trans h.r9,
    fun j hj => (h.rw j hj).mods k.m (fun b hb' => by obtain ⟨cs, e⟩ := Rw.five (h.rw j hj) hb'; exact h.lk.dk.not e (by decide) (by decide)), h.ap, h.own, h.o7, h.o8, h.o9⟩
/-- A block of the law's own, of other cells than bytes, is turned. -/
theorem LS.lks (h : LS w0 w g sb hb wv su ws rg c p d K a7 a8 a9 V R f lg) {a : Nat} {cs : Array Value} {t : TypeId} (ha : w.heap[a]? = some (.cells cs t (0, 0))) (h1 : t ≠ 51) (h2 : t ≠ 101) (h3 : t ≠ 5) (ho : w0.heap.size ≤ a) (m : Mods (fun k => k = a) w w')
    {V' : Nat → Value} (hP : ∀ b, b < w.heap.size → NR V b → NR V' b) : LK (NR V') w0 w' g 4 sb hb wv su ws rg c p d K :=
  ⟨h.lk.dk.to m (fun b e => by rw [e]; exact h.lk.dk.not ha h1 h2) (fun b cs' _ e1 e2 => by rw [e2, ha] at e1; injection e1 with e1; injection e1 with _ e1 _; exact h3 e1) hP, Mods.below h.lk.b m h.lk.b.size (fun b e => by rw [e]; exact ho), h.lk.og, h.lk.os, h.lk.oh, h.lk.ov⟩
theorem LS.rws (h : LS w0 w g sb hb wv su ws rg c p d K a7 a8 a9 V R f lg) {a : Nat} {cs : Array Value} {t : TypeId} (ha : w.heap[a]? = some (.cells cs t (0, 0))) (h3 : t ≠ 5) (m : Mods (fun k => k = a) w w') : ∀ k, k < 4 → Rw w' 5 1 (V k) (R k).length (bc (R k)) :=
  fun k hk => (h.rw k hk).mods m (fun b e1 e2 => (h.rw k hk).ty ha (fun e => h3 e.symm) (by rw [← e2]; exact e1))
theorem ne_block {a b : Nat} {cs ds : Array Value} {t u : TypeId} (ha : w.heap[a]? = some (.cells cs t (0, 0))) (hb : w.heap[b]? = some (.cells ds u (0, 0))) (h : t ≠ u) : ¬ a = b := by
  intro e; rw [e, hb] at ha; injection ha with ha; injection ha with _ e _; exact h e.symm
/-- What is held to be sure of a sector is turned. -/
theorem LS.sure_set (h : LS w0 w g sb hb wv su ws rg c p d K a7 a8 a9 V R f lg) {s y : Nat} (hs : s < 4) : LS w0 (w.setCell ⟨a7, s, none⟩ (.int .u8 y)) g sb hb wv su ws rg c p d K a7 a8 a9 V R (updN f s y) lg := by
  have m : Mods (fun k => k = a7) w (w.setCell ⟨a7, s, none⟩ (.int .u8 y)) := Mods.set (S := fun k => k = a7) w ⟨a7, s, none⟩ _ rfl
  refine ⟨h.lks h.r7 (by decide) (by decide) (by decide) h.o7 m (fun _ _ e => e), ?_, (m.block _ (Array.getElem?_eq_some_iff.1 h.r8).1 (ne_block h.r8 h.r7 (by decide))).trans h.r8, (m.block _ (Array.getElem?_eq_some_iff.1 h.r9).1 (ne_block h.r9 h.r7 (by decide))).trans h.r9, h.rws h.r7 (by decide) m, h.ap, h.own, h.o7, h.o8, h.o9⟩
  have := h.r7
  simp [World.setCell, Array.getElem?_modify, this, arr4_set f s y hs]
/-- Nothing waits of a sector any more. -/
theorem LS.wait_nil (h : LS w0 w g sb hb wv su ws rg c p d K a7 a8 a9 V R f lg) {s : Nat} (hs : s < 4) : LS w0 (w.setCell ⟨a8, s, none⟩ (.slice none 0 0)) g sb hb wv su ws rg c p d K a7 a8 a9 (updV V s (.slice none 0 0)) (updV R s []) f lg := by
  have m : Mods (fun k => k = a8) w (w.setCell ⟨a8, s, none⟩ (.slice none 0 0)) := Mods.set (S := fun k => k = a8) w ⟨a8, s, none⟩ _ rfl
  have hb : ∀ k b, ((updV V s (.slice none 0 0)) k).ownBlock = some b → k ≠ s ∧ (V k).ownBlock = some b := fun k b e => by
    unfold updV at e
    by_cases hk : k = s
    · rw [if_pos hk] at e; simp [Value.ownBlock] at e
    · rw [if_neg hk] at e; exact ⟨hk, e⟩
  refine ⟨h.lks h.r8 (by decide) (by decide) (by decide) h.o8 m (fun b _ e k hk e2 => e k hk (hb k b e2).2), (m.block _ (Array.getElem?_eq_some_iff.1 h.r7).1 (ne_block h.r7 h.r8 (by decide))).trans h.r7, ?_, (m.block _ (Array.getElem?_eq_some_iff.1 h.r9).1 (ne_block h.r9 h.r8 (by decide))).trans h.r9, fun k hk => ?_, fun i j hi hj hij b e1 e2 => h.ap i j hi hj hij b (hb i b e1).2 (hb j b e2).2, fun k hk b e => h.own k hk b (hb k b e).2, h.o7, h.o8, h.o9⟩
  · have := h.r8
    simp [World.setCell, Array.getElem?_modify, this, arrV_set V s _ hs]
  · have := h.rws h.r8 (by decide) m k hk
    unfold updV
    by_cases e : k = s
    · rw [if_pos e, if_pos e]; exact Rw.nil _ _ _
    · rw [if_neg e, if_neg e]; exact this
/-- The law's register is another. -/
theorem LS.reg_set (h : LS w0 w g sb hb wv su ws rg c p d K a7 a8 a9 V R f lg) (r' : w'.heap[a9]? = some (.cells lg'.toArray 44 (0, 0))) (m : Mods (fun k => k = a9) w w') : LS w0 w' g sb hb wv su ws rg c p d K a7 a8 a9 V R f lg' :=
  ⟨h.lks h.r9 (by decide) (by decide) (by decide) h.o9 m (fun _ _ e => e), (m.block _ (Array.getElem?_eq_some_iff.1 h.r7).1 (ne_block h.r7 h.r9 (by decide))).trans h.r7, (m.block _ (Array.getElem?_eq_some_iff.1 h.r8).1 (ne_block h.r8 h.r9 (by decide))).trans h.r8, r', h.rws h.r9 (by decide) m, h.ap, h.own, h.o7, h.o8, h.o9⟩
theorem info5a : (Try.prog.info? 5).map (fun i => (i.zero, i.size, i.bytes)) = some (some (.int .u8 0), 1, 1) := info5
/-- A write that waits is added. -/
theorem LS.app (h : LS w0 w g sb hb wv su ws rg c p d K a7 a8 a9 V R f lg) {s y : Nat} (hs : s < 4) (hl : (R s).length ≤ 1000) :
    ∃ x' k' w1, (Builtin.append_ #[32, 32] 32 #[V s, .slice (some ⟨w.heap.size, 0, none⟩) 1 1]).run Try.prog (w.alloc (.cells #[.int .u8 y] 5)) = .ok (.slice x' ((R s).length + 1) k') w1 ∧
      w1.cell? ⟨a8, s, none⟩ = some (V s) ∧ w1.frozen? ⟨a8, s, none⟩ = false ∧ Mods (fun k => (V s).ownBlock = some k) w w1 ∧ (∀ (k : Nat) (cs : Array Value) (t : TypeId), w.heap[k]? = some (.cells cs t (0, 0)) → t ≠ 5 → w1.heap[k]? = some (.cells cs t (0, 0))) ∧
      LS w0 (w1.setCell ⟨a8, s, none⟩ (.slice x' ((R s).length + 1) k')) g sb hb wv su ws rg c p d K a7 a8 a9 (updV V s (.slice x' ((R s).length + 1) k')) (updV R s (R s ++ [y])) f lg := by
  obtain ⟨i, hi, hz0, hz1, hz2⟩ := info_parts info5a
  have hbl : Below w.heap.size w (w.alloc (.cells #[.int .u8 y] 5)) := (Below.refl _ _).alloc (Nat.le_refl _) _
  have hnew := heap_alloc_new w (.cells #[.int .u8 (y : Int)] 5)
  have ha := h.below hbl
  obtain ⟨v', w1, hrun, q1, q2, q3⟩ := (ha.rw s hs).push Try.underlying32 hi hz0 hz1 hz2 rfl (by decide) ⟨w.heap.size, 0, none⟩ 1 1 [.int .u8 y] rfl
    (fun j u hj => by rw [addr_add, cell_of_row _ _ _ _ _ _ hnew]; rcases j with _ | j <;> simp at hj ⊢; exact hj) (by simp [Value.oneCell']) (by unfold maxLen; omega) (by omega) (by omega)
  obtain ⟨x', k', rfl, _, _⟩ := q1.form
  have keep : ∀ (k : Nat) (cs : Array Value) (t : TypeId), (w.alloc (.cells #[.int .u8 (y : Int)] 5)).heap[k]? = some (.cells cs t (0, 0)) → t ≠ 5 → w1.heap[k]? = some (.cells cs t (0, 0)) := fun k cs t hk ht =>
    (q2.block k (Array.getElem?_eq_some_iff.1 hk).1 (fun e => (ha.rw s hs).ty hk (fun e => ht e.symm) e)).trans hk
  have k8 := keep _ _ _ ha.r8 (by decide)
  have nb : ∀ b, (Value.slice x' ((R s).length + 1) k').ownBlock = some b → (V s).ownBlock = some b ∨ w.heap.size ≤ b := fun b e => by
    rcases q3 with q3 | ⟨b', q3, q4⟩
    · rw [q3] at e; exact .inl e
    · rw [q3] at e
      injection e with e
      exact .inr (by rw [← e]; exact Nat.le_trans hbl.size q4)
  have mw : Mods (fun k => (V s).ownBlock = some k) w w1 := (Mods.of_below hbl (S := fun k => (V s).ownBlock = some k)).trans q2 (fun _ e => .inl e)
  have m1 : Mods (fun k => k = a8) w1 (w1.setCell ⟨a8, s, none⟩ (.slice x' ((R s).length + 1) k')) := Mods.set (S := fun k => k = a8) w1 ⟨a8, s, none⟩ _ rfl
  have five : ∀ b, (V s).ownBlock = some b → ∃ cs, w.heap[b]? = some (.cells cs 5 (0, 0)) := fun b e => Rw.five (h.rw s hs) e
  have hP : ∀ b, b < w.heap.size → NR V b → NR (updV V s (.slice x' ((R s).length + 1) k')) b := fun b hb' hN k hk e => by
    unfold updV at e
    by_cases hks : k = s
    · rw [if_pos hks] at e
      rcases nb b e with e' | e'
      · exact hN s hs e'
      · omega
    · rw [if_neg hks] at e; exact hN k hk e
  have d1 : DK (NR (updV V s (.slice x' ((R s).length + 1) k'))) w1 g 4 sb hb wv su ws rg c p d K :=
    h.lk.dk.to mw (fun b e => by obtain ⟨cs, e'⟩ := five b e; exact h.lk.dk.not e' (by decide) (by decide)) (fun b cs hN _ e => hN s hs e) hP
  have d2 := d1.to (P' := NR (updV V s (.slice x' ((R s).length + 1) k'))) m1 (fun b e => by rw [e]; exact d1.not k8 (by decide) (by decide)) (fun b cs _ e1 e2 => by rw [e2, k8] at e1; injection e1 with e1; injection e1 with _ e1 _; cases e1) (fun _ _ e => e)
  have m2 : Mods (fun b => (V s).ownBlock = some b ∨ b = a8) w (w1.setCell ⟨a8, s, none⟩ (.slice x' ((R s).length + 1) k')) := (mw.mono (T := fun b => (V s).ownBlock = some b ∨ b = a8) (fun b e => .inl (.inl e))).trans m1 (fun b e => .inl (.inr e))
  have k7 := keep _ _ _ ha.r7 (by decide)
  have k9 := keep _ _ _ ha.r9 (by decide)
  refine ⟨x', k', w1, hrun, by rw [cell_of_row _ _ _ _ _ _ k8]; exact arrV_at V s hs, by simp [World.frozen?, k8], mw, fun k cs t hk ht => keep k cs t ((hbl.block k (Array.getElem?_eq_some_iff.1 hk).1).trans hk) ht, ?_⟩
  refine ⟨⟨d2, Mods.below h.lk.b m2 h.lk.b.size (fun b e => by rcases e with e | e; exact h.own s hs b e; rw [e]; exact h.o8), h.lk.og, h.lk.os, h.lk.oh, h.lk.ov⟩, (m1.block _ (Array.getElem?_eq_some_iff.1 k7).1 (ne_block k7 k8 (by decide))).trans k7, ?_, (m1.block _ (Array.getElem?_eq_some_iff.1 k9).1 (ne_block k9 k8 (by decide))).trans k9, fun k hk => ?_, fun i j hi hj hij b e1 e2 => ?_, fun k hk b e => ?_, h.o7, h.o8, h.o9⟩
  · simp [World.setCell, Array.getElem?_modify, k8, arrV_set V s _ hs]
  · unfold updV
    by_cases e : k = s
    · rw [if_pos e, if_pos e, List.length_append, bc_app]
      exact q1.mods m1 (fun b e1 e2 => q1.ty k8 (by decide) (by rw [← e2]; exact e1))
    · rw [if_neg e, if_neg e]
      have q := (h.rw k hk).mods mw (fun b e1 e2 => h.ap k s hk hs e b e1 e2)
      exact q.mods m1 (fun b e1 e2 => q.ty k8 (by decide) (by rw [← e2]; exact e1))
  · unfold updV at e1 e2
    by_cases hi' : i = s
    · rw [if_pos hi'] at e1
      rw [if_neg (by omega)] at e2
      rcases nb b e1 with e | e
      · exact h.ap s j hs hj (by omega) b e e2
      · have := (h.rw j hj).lt b e2; omega
    · rw [if_neg hi'] at e1
      by_cases hj' : j = s
      · rw [if_pos hj'] at e2
        rcases nb b e2 with e | e
        · exact h.ap i s hi hs hi' b e1 e
        · have := (h.rw i hi).lt b e1; omega
      · rw [if_neg hj'] at e2
        exact h.ap i j hi hj hij b e1 e2
  · unfold updV at e
    by_cases hk' : k = s
    · rw [if_pos hk'] at e
      rcases nb b e with e | e
      · exact h.own s hs b e
      · exact Nat.le_trans h.lk.b.size e
    · rw [if_neg hk'] at e; exact h.own k hk b e
end
end Go.Proofs.Ytklhnibmpdaioaa.pv
