/-
  A disk in memory: its cells, its maps, its row of writes. Condition: none.
-/
import Derived.Test.YtjdamlmoegippaaDoorDkDR
import Derived.Laws.CopyRow
namespace Go.Proofs.YtjdamlmoegippaaDoor.dk
open Go.RowKit
/-- Bytes as cells. -/
def bcells (xs : List Nat) : Array Value := (xs.map (fun (n : Nat) => Value.int .u8 (n : Int))).toArray
/-- A slice that has a block of its own, and its bytes. -/
def TX (w : World) (v : Value) (xs : List Nat) : Prop := ∃ b, v = .slice (some ⟨b, 0, none⟩) xs.length xs.length ∧ w.heap[b]? = some (.cells (bcells xs) 5 (0, 0))
theorem TX.lt {w : World} {v : Value} {xs : List Nat} (h : TX w v xs) : ∃ b, v = .slice (some ⟨b, 0, none⟩) xs.length xs.length ∧ b < w.heap.size := by
  obtain ⟨b, rfl, h1⟩ := h
  exact ⟨b, rfl, (Array.getElem?_eq_some_iff.1 h1).1⟩
theorem TX.mods {S : Nat → Prop} {w w' : World} {v : Value} {xs : List Nat} (h : TX w v xs) (m : Mods S w w') (hS : ∀ b cs, w.heap[b]? = some (.cells cs 5 (0, 0)) → ¬ S b) : TX w' v xs := by
  obtain ⟨b, rfl, h1⟩ := h
  exact ⟨b, rfl, (m.block b (Array.getElem?_eq_some_iff.1 h1).1 (hS b _ h1)).trans h1⟩
theorem TX.below {w w' : World} {v : Value} {xs : List Nat} (h : TX w v xs) (hb : Below w.heap.size w w') : TX w' v xs :=
  h.mods (S := fun _ => False) (Mods.of_below hb) (fun _ _ _ => id)
theorem TX.heap {w w' : World} {v : Value} {xs : List Nat} (h : TX w v xs) (e : w'.heap = w.heap) : TX w' v xs := by
  obtain ⟨b, rfl, h1⟩ := h
  exact ⟨b, rfl, by rw [e]; exact h1⟩
/-- The cells of a disk. -/
def dcells (N : Nat) (sb hb : Nat) (wv : Value) (rg : List Value) (c p : Int) (d : Bool) : Array Value :=
  (([.int .i64 N, .map (some sb), .map (some hb), wv] : List Value) ++ (rg ++ ([.int .i64 c, .int .i64 p, .bool d] : List Value))).toArray
section
variable {N sb hb : Nat} {wv : Value} {rg : List Value} {c p : Int} {d : Bool}
theorem dcells_68 (h : rg.length = 64) : (dcells N sb hb wv rg c p d)[68]? = some (.int .i64 c) := by
  unfold dcells; rw [List.getElem?_toArray, List.getElem?_append_right (by simp), List.getElem?_append_right (by simp [h])]; simp [h]
theorem dcells_69 (h : rg.length = 64) : (dcells N sb hb wv rg c p d)[69]? = some (.int .i64 p) := by
  unfold dcells; rw [List.getElem?_toArray, List.getElem?_append_right (by simp), List.getElem?_append_right (by simp [h])]; simp [h]
theorem dcells_70 (h : rg.length = 64) : (dcells N sb hb wv rg c p d)[70]? = some (.bool d) := by
  unfold dcells; rw [List.getElem?_toArray, List.getElem?_append_right (by simp), List.getElem?_append_right (by simp [h])]; simp [h]
theorem dset_3 (v : Value) : (dcells N sb hb wv rg c p d).setIfInBounds 3 v = dcells N sb hb v rg c p d := by
  unfold dcells; rw [List.setIfInBounds_toArray]; rfl
theorem dset_68 (h : rg.length = 64) (z : Int) : (dcells N sb hb wv rg c p d).setIfInBounds 68 (.int .i64 z) = dcells N sb hb wv rg z p d := by
  unfold dcells; rw [List.setIfInBounds_toArray, List.set_append_right _ _ (by simp), List.set_append_right _ _ (by simp [h])]; simp [h]
theorem dset_69 (h : rg.length = 64) (z : Int) : (dcells N sb hb wv rg c p d).setIfInBounds 69 (.int .i64 z) = dcells N sb hb wv rg c z d := by
  unfold dcells; rw [List.setIfInBounds_toArray, List.set_append_right _ _ (by simp), List.set_append_right _ _ (by simp [h])]; simp [h]
end
/-- A sector: of one octet, or of any. -/
def tx (y : Nat) : List Nat := if y < 256 then List.replicate 512 y else (List.range 512).map fun i => (y - 256) / 256 ^ i % 256
theorem tx_len (y : Nat) : (tx y).length = 512 := by
  unfold tx
  by_cases h : y < 256
  · rw [if_pos h]; exact List.length_replicate
  · rw [if_neg h, List.length_map, List.length_range]
theorem tx_small {y : Nat} (h : y < 256) : tx y = List.replicate 512 y := if_pos h
theorem tx_byte (y : Nat) : ∀ x ∈ tx y, x < 256 := fun x hx => by
  unfold tx at hx
  by_cases h : y < 256
  · rw [if_pos h, List.mem_replicate] at hx
    omega
  · rw [if_neg h, List.mem_map] at hx
    obtain ⟨i, _, rfl⟩ := hx
    exact Nat.mod_lt _ (by decide)
/-- The number whose digits are some bytes. -/
def cod : List Nat → Nat
  | [] => 0
  | x :: r => x + 256 * cod r
theorem cod_at : ∀ (xs : List Nat) (i : Nat), (∀ x ∈ xs, x < 256) → ∀ h : i < xs.length, cod xs / 256 ^ i % 256 = xs[i]
  | [], i, _, h => absurd h (Nat.not_lt_zero _)
  | x :: r, 0, hb, _ => by
    have hx := hb x List.mem_cons_self
    simp only [cod, Nat.pow_zero, Nat.div_one, List.getElem_cons_zero]
    omega
  | x :: r, i + 1, hb, h => by
    have hx := hb x List.mem_cons_self
    have ih := cod_at r i (fun y hy => hb y (List.mem_cons_of_mem _ hy)) (Nat.lt_of_succ_lt_succ h)
    simp only [cod, List.getElem_cons_succ]
    rw [Nat.pow_succ, Nat.mul_comm (256 ^ i) 256, ← Nat.div_div_eq_div_mul, show (x + 256 * cod r) / 256 = cod r by omega]
    exact ih
/-- Each text of 512 bytes is a sector's. -/
theorem tx_onto (xs : List Nat) (hl : xs.length = 512) (hb : ∀ x ∈ xs, x < 256) : ∃ y, tx y = xs := by
  refine ⟨256 + cod xs, ?_⟩
  unfold tx
  rw [if_neg (by omega), Nat.add_sub_cancel_left]
  refine List.ext_getElem (by rw [List.length_map, List.length_range, hl]) fun i h1 h2 => ?_
  rw [List.getElem_map, List.getElem_range]
  exact cod_at xs i hb h2
/-- A slice of bytes, whatever lies behind it. -/
def SX (w : World) (v : Value) (xs : List Nat) : Prop := ∃ b o c cs, v = .slice (some ⟨b, o, none⟩) xs.length c ∧ xs.length ≤ c ∧ c ≤ 9223372036854775807 ∧ w.heap[b]? = some (.cells cs 5 (0, 0)) ∧ ∀ (i : Nat) (x : Nat), xs[i]? = some x → cs[o + i]? = some (Value.int .u8 (x : Int))
theorem SX.mods {S : Nat → Prop} {w w' : World} {v : Value} {xs : List Nat} (h : SX w v xs) (m : Mods S w w') (hS : ∀ b cs, w.heap[b]? = some (.cells cs 5 (0, 0)) → ¬ S b) : SX w' v xs := by
  obtain ⟨b, o, c, cs, h1, h2, h3, h4, h5⟩ := h
  exact ⟨b, o, c, cs, h1, h2, h3, (m.block b (Array.getElem?_eq_some_iff.1 h4).1 (hS b _ h4)).trans h4, h5⟩
theorem SX.below {w w' : World} {v : Value} {xs : List Nat} (h : SX w v xs) (hb : Below w.heap.size w w') : SX w' v xs :=
  h.mods (S := fun _ => False) (Mods.of_below hb) (fun _ _ _ => id)
theorem SX.heap {w w' : World} {v : Value} {xs : List Nat} (h : SX w v xs) (e : w'.heap = w.heap) : SX w' v xs := by
  obtain ⟨b, o, c, cs, h1, h2, h3, h4, h5⟩ := h
  exact ⟨b, o, c, cs, h1, h2, h3, by rw [e]; exact h4, h5⟩
theorem TX.sx {w : World} {v : Value} {xs : List Nat} (h : TX w v xs) (hl : xs.length ≤ 65536) : SX w v xs := by
  obtain ⟨b, rfl, h1⟩ := h
  refine ⟨b, 0, xs.length, _, rfl, Nat.le_refl _, by omega, h1, fun i x hx => ?_⟩
  unfold bcells
  rw [Nat.zero_add, List.getElem?_toArray, List.getElem?_map, hx]
  rfl
theorem TX.sx5 {w : World} {v : Value} {y : Nat} (h : TX w v (tx y)) : SX w v (tx y) := h.sx (by rw [tx_len]; decide)
/-- Each number is a sector's. -/
def YB (y : Nat) : Prop := tx y = tx y
theorem yb (y : Nat) : YB y := rfl
/-- What a map of sectors has. -/
def SM (w : World) (f : Lit → Option Value) (su : Nat → Option Nat) : Prop :=
  ∀ s : Nat, (su s = none ∧ f (.int .u32 s) = none) ∨ ∃ y v, su s = some y ∧ f (.int .u32 s) = some v ∧ TX w v (tx y) ∧ YB y
/-- Writes that wait, in order, as cells. -/
def WS (w : World) : List (Nat × Nat) → List Value → Prop
  | [], vs => vs = []
  | (s, y) :: r, vs => ∃ v vs', vs = .int .u32 s :: v :: vs' ∧ s < 65536 ∧ TX w v (tx y) ∧ YB y ∧ WS w r vs'
/-- A row of writes. -/
def WR (w : World) (wv : Value) (n : Nat) (vs : List Value) : Prop := Rw w 100 2 wv n vs
/-- The last write of a sector among some. -/
def lastW (s : Nat) : List (Nat × Nat) → Option Nat
  | [] => none
  | (s', y) :: r => match lastW s r with | some y' => some y' | none => if s' = s then some y else none
/-- A disk in memory: what is sure, what waits, the register, calls, plan, down. -/
structure DK (w : World) (g N sb hb : Nat) (wv : Value) (su : Nat → Option Nat) (ws : List (Nat × Nat)) (rg : List Value) (c p : Int) (d : Bool) (K : Nat) : Prop where
  n1 : 1 ≤ N
  n2 : N ≤ 65536
  row : w.heap[g]? = some (.cells (dcells N sb hb wv rg c p d) 94 (0, 0))
  len : rg.length = 64
  sure : ∃ n f, MapV Tryd.prog 22 w sb n f ∧ n + ws.length ≤ K ∧ SM w f su
  shown : ∃ n f, MapV Tryd.prog 22 w hb n f ∧ n ≤ K ∧ SM w f (fun s => lastW s ws)
  waits : ∃ vs, WR w wv ws.length vs ∧ WS w ws vs
  ne : sb ≠ hb
  wl : K ≤ 1000000
/-- Nothing of a disk's own is of bytes. -/
def Dt (g sb hb : Nat) (wv : Value) : Nat → Prop := fun k => k = g ∨ k = sb ∨ k = hb ∨ wv.ownBlock = some k
theorem SM.mods {S : Nat → Prop} {w w' : World} {f : Lit → Option Value} {su : Nat → Option Nat} (h : SM w f su) (m : Mods S w w') (hS : ∀ b cs, w.heap[b]? = some (.cells cs 5 (0, 0)) → ¬ S b) : SM w' f su := fun s => by
  rcases h s with h1 | ⟨y, v, h1, h2, h3, h4⟩
  · exact .inl h1
  · exact .inr ⟨y, v, h1, h2, h3.mods m hS, h4⟩
theorem WS.mods {S : Nat → Prop} {w w' : World} (m : Mods S w w') (hS : ∀ b cs, w.heap[b]? = some (.cells cs 5 (0, 0)) → ¬ S b) : ∀ {ws : List (Nat × Nat)} {vs : List Value}, WS w ws vs → WS w' ws vs
  | [], _, h => h
  | (s, y) :: r, _, h => by
    obtain ⟨v, vs', e, h1, h2, h3, h4⟩ := h
    exact ⟨v, vs', e, h1, h2.mods m hS, h3, WS.mods m hS h4⟩
theorem WR.lt {w : World} {wv : Value} {n : Nat} {vs : List Value} (h : WR w wv n vs) : ∀ k, wv.ownBlock = some k → k < w.heap.size ∧ ∃ cs, w.heap[k]? = some (.cells cs 100 (0, 0)) := by
  intro k hk
  rcases h.2.2 with ⟨rfl, _⟩ | ⟨b, o, cap, cs, rfl, hg, _⟩
  · simp [Value.ownBlock] at hk
  · simp [Value.ownBlock] at hk
    subst hk
    exact ⟨(Array.getElem?_eq_some_iff.1 hg).1, cs, hg⟩
theorem WR.mods {S : Nat → Prop} {w w' : World} {wv : Value} {n : Nat} {vs : List Value} (h : WR w wv n vs) (m : Mods S w w') (hS : ∀ k, wv.ownBlock = some k → ¬ S k) : WR w' wv n vs := by
  refine ⟨h.1, h.2.1, ?_⟩
  rcases h.2.2 with h1 | ⟨b, o, cap, cs, rfl, hg, r⟩
  · exact .inl h1
  · exact .inr ⟨b, o, cap, cs, rfl, (m.block b (Array.getElem?_eq_some_iff.1 hg).1 (hS b rfl)).trans hg, r⟩
theorem WR.form {w : World} {wv : Value} {n : Nat} {vs : List Value} (h : WR w wv n vs) : ∃ x c, wv = .slice x n c ∧ n ≤ c ∧ c ≤ maxLen := by
  rcases h.2.2 with ⟨rfl, rfl⟩ | ⟨b, o, cap, cs, rfl, _, _, h1, h2, _⟩
  · exact ⟨_, _, rfl, Nat.le_refl _, by simp [maxLen]⟩
  · exact ⟨_, _, rfl, h1, h2⟩
section
variable {w w' : World} {g N sb hb : Nat} {wv : Value} {su : Nat → Option Nat} {ws : List (Nat × Nat)} {rg : List Value} {c p : Int} {d : Bool} {K : Nat}
theorem DK.lt (h : DK w g N sb hb wv su ws rg c p d K) : g < w.heap.size := (Array.getElem?_eq_some_iff.1 h.row).1
theorem DK.c0 (h : DK w g N sb hb wv su ws rg c p d K) : w.cell? ⟨g, 0, none⟩ = some (.int .i64 N) := by rw [cell_of_row _ _ _ _ _ _ h.row]; rfl
theorem DK.c1 (h : DK w g N sb hb wv su ws rg c p d K) : w.cell? ⟨g, 1, none⟩ = some (.map (some sb)) := by rw [cell_of_row _ _ _ _ _ _ h.row]; rfl
theorem DK.c2 (h : DK w g N sb hb wv su ws rg c p d K) : w.cell? ⟨g, 2, none⟩ = some (.map (some hb)) := by rw [cell_of_row _ _ _ _ _ _ h.row]; rfl
theorem DK.c3 (h : DK w g N sb hb wv su ws rg c p d K) : w.cell? ⟨g, 3, none⟩ = some wv := by rw [cell_of_row _ _ _ _ _ _ h.row]; rfl
theorem DK.c68 (h : DK w g N sb hb wv su ws rg c p d K) : w.cell? ⟨g, 68, none⟩ = some (.int .i64 c) := by rw [cell_of_row _ _ _ _ _ _ h.row]; exact dcells_68 h.len
theorem DK.c69 (h : DK w g N sb hb wv su ws rg c p d K) : w.cell? ⟨g, 69, none⟩ = some (.int .i64 p) := by rw [cell_of_row _ _ _ _ _ _ h.row]; exact dcells_69 h.len
theorem DK.c70 (h : DK w g N sb hb wv su ws rg c p d K) : w.cell? ⟨g, 70, none⟩ = some (.bool d) := by rw [cell_of_row _ _ _ _ _ _ h.row]; exact dcells_70 h.len
theorem DK.fz (h : DK w g N sb hb wv su ws rg c p d K) (i : Nat) : w.frozen? ⟨g, i, none⟩ = false := by simp [World.frozen?, h.row]
/-- The disk's own blocks are of other kinds than bytes, and apart. -/
theorem DK.kinds (h : DK w g N sb hb wv su ws rg c p d K) : (∀ b cs, w.heap[b]? = some (.cells cs 5 (0, 0)) → ¬ Dt g sb hb wv b) ∧ g ≠ sb ∧ g ≠ hb ∧ (∀ k, wv.ownBlock = some k → k ≠ g ∧ k ≠ sb ∧ k ≠ hb) := by
  obtain ⟨n1, f1, m1, _⟩ := h.sure
  obtain ⟨n2, f2, m2, _⟩ := h.shown
  obtain ⟨vs, r, _⟩ := h.waits
  obtain ⟨es1, k1, hm1⟩ := m1.isMap
  obtain ⟨es2, k2, hm2⟩ := m2.isMap
  have hr := h.row
  refine ⟨fun b cs hb hd => ?_, fun e => ?_, fun e => ?_, fun k hk => ?_⟩
  · rcases hd with rfl | rfl | rfl | hd
    · rw [hr] at hb; injection hb with hb; injection hb with _ hb; cases hb
    · rw [hm1] at hb; cases hb
    · rw [hm2] at hb; cases hb
    · obtain ⟨_, cs', hc⟩ := r.lt b hd
      rw [hc] at hb; injection hb with hb; injection hb with _ hb; cases hb
  · rw [← e, hr] at hm1; cases hm1
  · rw [← e, hr] at hm2; cases hm2
  · obtain ⟨_, cs', hc⟩ := r.lt k hk
    refine ⟨fun e => ?_, fun e => ?_, fun e => ?_⟩
    · rw [e, hr] at hc; injection hc with hc; injection hc with _ hc; cases hc
    · rw [e, hm1] at hc; cases hc
    · rw [e, hm2] at hc; cases hc
theorem DK.below (h : DK w g N sb hb wv su ws rg c p d K) (b : Below w.heap.size w w') : DK w' g N sb hb wv su ws rg c p d K := by
  have m : Mods (fun _ => False) w w' := Mods.of_below b
  obtain ⟨n1, f1, m1, b1, s1⟩ := h.sure
  obtain ⟨n2, f2, m2, b2, s2⟩ := h.shown
  obtain ⟨vs, r, q⟩ := h.waits
  exact ⟨h.n1, h.n2, (m.block g h.lt id).trans h.row, h.len, ⟨n1, f1, m1.mods m id, b1, s1.mods m (fun _ _ _ => id)⟩, ⟨n2, f2, m2.mods m id, b2, s2.mods m (fun _ _ _ => id)⟩, ⟨vs, r.mods m (fun _ _ => id), WS.mods m (fun _ _ _ => id) q⟩, h.ne, h.wl⟩
theorem DK.heap (h : DK w g N sb hb wv su ws rg c p d K) (e : w'.heap = w.heap) : DK w' g N sb hb wv su ws rg c p d K := by
  obtain ⟨n1, f1, m1, b1, s1⟩ := h.sure
  obtain ⟨n2, f2, m2, b2, s2⟩ := h.shown
  obtain ⟨vs, r, q⟩ := h.waits
  have m : Mods (fun _ => False) { w with heap := w.heap } { w with heap := w'.heap } := ⟨rfl, rfl, rfl, by rw [e]; exact Nat.le_refl _, fun k _ _ => by rw [e]⟩
  have s1' := s1.mods m (fun _ _ _ => id)
  have s2' := s2.mods m (fun _ _ _ => id)
  have r' := r.mods m (fun _ _ => id)
  have q' := WS.mods m (fun _ _ _ => id) q
  refine ⟨h.n1, h.n2, by rw [e]; exact h.row, h.len, ⟨n1, f1, m1.same (by rw [e]), b1, fun s => ?_⟩, ⟨n2, f2, m2.same (by rw [e]), b2, fun s => ?_⟩, ⟨vs, ⟨r'.1, r'.2.1, r'.2.2⟩, ?_⟩, h.ne, h.wl⟩
  · rcases s1 s with h1 | ⟨y, v, h1, h2, h3, h4⟩
    · exact .inl h1
    · exact .inr ⟨y, v, h1, h2, h3.heap e, h4⟩
  · rcases s2 s with h1 | ⟨y, v, h1, h2, h3, h4⟩
    · exact .inl h1
    · exact .inr ⟨y, v, h1, h2, h3.heap e, h4⟩
  · clear r' q' s1' s2' m r
    induction ws generalizing vs with
    | nil => exact q
    | cons a r ih =>
      obtain ⟨v, vs', e1, h1, h2, h3, h4⟩ := q
      refine ⟨v, vs', e1, h1, h2.heap e, h3, ?_⟩
      have : ∀ (l : List (Nat × Nat)) (us : List Value), WS w l us → WS w' l us := by
        intro l
        induction l with
        | nil => exact fun _ h => h
        | cons a l ih => intro us ⟨v, vs', e1, h1, h2, h3, h4⟩; exact ⟨v, vs', e1, h1, h2.heap e, h3, ih _ h4⟩
      exact this r vs' h4
/-- Only the disk's own cells are turned: a number of calls, the plan, whether it is down. -/
theorem DK.reset (h : DK w g N sb hb wv su ws rg c p d K) {c' p' : Int} {d' : Bool} (row' : w'.heap[g]? = some (.cells (dcells N sb hb wv rg c' p' d') 94 (0, 0))) (m : Mods (fun k => k = g) w w') : DK w' g N sb hb wv su ws rg c' p' d' K := by
  obtain ⟨n1, f1, m1, b1, s1⟩ := h.sure
  obtain ⟨n2, f2, m2, b2, s2⟩ := h.shown
  obtain ⟨vs, r, q⟩ := h.waits
  obtain ⟨k1, k2, k3, k4⟩ := h.kinds
  have kb : ∀ b cs, w.heap[b]? = some (.cells cs 5 (0, 0)) → ¬ b = g := fun b cs hb e => k1 b cs hb (.inl e)
  exact ⟨h.n1, h.n2, row', h.len, ⟨n1, f1, m1.mods m (fun e => k2 e.symm), b1, s1.mods m kb⟩, ⟨n2, f2, m2.mods m (fun e => k3 e.symm), b2, s2.mods m kb⟩, ⟨vs, r.mods m (fun k hk => (k4 k hk).1), WS.mods m kb q⟩, h.ne, h.wl⟩
theorem row_set (h : w.heap[g]? = some (.cells (dcells N sb hb wv rg c p d) 94 (0, 0))) (i : Nat) (v : Value) : (w.setCell ⟨g, i, none⟩ v).heap[g]? = some (.cells ((dcells N sb hb wv rg c p d).setIfInBounds i v) 94 (0, 0)) := by
  simp [World.setCell, Array.getElem?_modify, h]
end
end Go.Proofs.YtjdamlmoegippaaDoor.dk
