/-
  Contracts of the functions that the statements of package entry go through: the values of counts and volumes. Condition: the numbers fit their kinds.
-/
import Derived.Test.YtbhkhkiidaemcaaEB
namespace Go.Proofs.Ytbhkhkiidaemcaa
open Go.RowKit
/-- Slices of bytes, each as it reads. -/
def AllSees (w : World) : List Value → List (List Int) → Prop
  | [], [] => True
  | v :: vs, p :: ps => Sees w v p ∧ p ≠ [] ∧ AllSees w vs ps
  | _, _ => False
theorem AllSees.at {w : World} : ∀ {vs : List Value} {P : List (List Int)}, AllSees w vs P → ∀ (i : Nat) (p : List Int), P[i]? = some p → ∃ v : Value, vs[i]? = some v ∧ Sees w v p ∧ p ≠ []
  | [], [], _, i, p, h => by simp at h
  | v :: vs, q :: P, h, i, p, hp => by
    obtain ⟨h1, h2, h3⟩ := h
    cases i with
    | zero => simp at hp; subst hp; exact ⟨v, rfl, h1, h2⟩
    | succ i => simp at hp; obtain ⟨u, e1, e2, e3⟩ := AllSees.at h3 i p hp; exact ⟨u, by simpa using e1, e2, e3⟩
  | [], _ :: _, h, _, _, _ => h.elim
  | _ :: _, [], h, _, _, _ => h.elim
theorem pt_of {W : World} {g : Nat} {vs : List Value} {P : List (List Int)} (hg : W.heap[g]? = some (.cells vs.toArray 43 (0, 0))) (h : AllSees W vs P) (hl : P.length ≤ 100) : PT W (.slice (some ⟨g, 0, none⟩) P.length P.length) P := by
  refine ⟨g, 0, P.length, rfl, hl, fun i p hp => ?_⟩
  obtain ⟨v, hv, hs, hn⟩ := h.at i p hp
  obtain ⟨_, ⟨_, h2⟩ | ⟨_, _, _, h2, _⟩ | ⟨bx, ox, c', rfl, _, _, _, hc⟩⟩ := hs
  · exact absurd h2 hn
  · exact absurd h2 hn
  · exact ⟨bx, ox, c', by rw [Nat.zero_add, cell_of_row _ _ _ _ _ _ hg]; simpa using hv, hc⟩
theorem AllSees.ne {w : World} : ∀ {vs : List Value} {P : List (List Int)}, AllSees w vs P → ∀ p ∈ P, p ≠ []
  | [], [], _, p, h => by simp at h
  | v :: vs, q :: P, h, p, hp => by
    obtain ⟨h1, h2, h3⟩ := h
    rcases List.mem_cons.1 hp with rfl | hp
    · exact h2
    · exact AllSees.ne h3 p hp
  | [], _ :: _, h, _, _ => h.elim
  | _ :: _, [], h, _, _ => h.elim
theorem valueS (W : World) (g : Nat) (vs : List Value) (P : List (List Int)) (V : List Int) (n : Nat) (hn : n = P.length) (hV : V = fv P) (hl : P.length ≤ 100) (hs : P.flatten.length ≤ 44) (hg : W.heap[g]? = some (.cells vs.toArray 43 (0, 0))) (h : AllSees W vs P) :
    Calls Try.prog 32 #[.slice (some ⟨g, 0, none⟩) n n] W fun e w' => e = .returned (.agg (bcells V)) ∧ Below W.heap.size W w' := by
  subst hn hV
  exact value P _ h.ne hs W (pt_of hg h hl)
theorem be_ne (n : Nat) (v : Int) : be (n + 1) v ≠ [] := fun e => by have := be_len (n + 1) v; rw [e] at this; simp at this
theorem ne_of_len {n : Nat} {p : List Int} (h : p.length = n + 1) : p ≠ [] := fun e => by rw [e] at h; simp at h
/-- What a write tells. -/
def WrP (w : World) (m : Prop) [Decidable m] (V : List Int) (e : Ending) (w' : World) : Prop :=
  e = .returned (.tuple #[.agg (bcells (if m then V else zs 44)), .int .i64 (if m then 0 else 3)]) ∧ Below w.heap.size w w'
theorem wrP_no {w w' : World} {m : Prop} [Decidable m] {V : List Int} (h : ¬ m) (hb : Below w.heap.size w w') : WrP w m V (.returned (.tuple #[.agg (bcells (zs 44)), .int .i64 3])) w' := by
  unfold WrP; rw [if_neg h, if_neg h]; exact ⟨rfl, hb⟩
theorem wrP_yes {w w' : World} {m : Prop} [Decidable m] {V : List Int} (h : m) (hb : Below w.heap.size w w') : WrP w m V (.returned (.tuple #[.agg (bcells V), .int .i64 0])) w' := by
  unfold WrP; rw [if_pos h, if_pos h]; exact ⟨rfl, hb⟩
/-! ### Counts -/
def cW (n : Int) : List Int := fv [be 8 n]
theorem cW_len (n : Int) : (cW n).length = 44 := fv_len (by simp [be_len])
theorem cW_byt (n : Int) : Byt (cW n) := fv_byt (by simpa using be_byt 8 n)
set_option maxRecDepth 100000 in
set_option maxHeartbeats 4000000 in
theorem writeCount (n : Int) (h0 : 0 ≤ n) (h1 : n ≤ 18446744073709551615) (w : World) : Calls Try.prog 15 #[.int .u64 n] w fun e w' => e = .returned (.agg (bcells (cW n))) ∧ Below w.heap.size w w' := by
  have PU := Lib.hid (fun W => putb64 n h0 h1 W)
  have VA : Hid (∀ (W : World) (g q : Nat), W.heap[g]? = some (.cells #[.slice (some ⟨q, 0, none⟩) 8 8] 43 (0, 0)) → Sees W (.slice (some ⟨q, 0, none⟩) 8 8) (be 8 n) → Calls Try.prog 32 #[.slice (some ⟨g, 0, none⟩) 1 1] W (ValueP W [be 8 n])) := fun W g q hg hs =>
    value [be 8 n] _ (fun p hp => by simp at hp; rw [hp]; exact be_ne 7 n) (by simp [be_len]) W (pt_of (vs := [_]) (P := [be 8 n]) hg ⟨hs, be_ne 7 n, trivial⟩ (by simp))
  have HZ := z38
  have BE : Hid (Below w.heap.size w (w.alloc (.cells (bcells (zs 44)) 38))) := (Below.refl _ _).alloc (Nat.le_refl _) _
  have G0 := Lib.hid (heap_alloc_new w (.cells (bcells (zs 44)) 38))
  have IZ := Lib.hid (i38 (cW_len n))
  have SZ := Lib.hid (bcells_sz (show (zs 44).length = (cW n).length by rw [zs_len, cW_len]))
  have OC := Lib.hid (one_cells (cW n))
  have U38 := Lib.hid Try.underlying38
  have HW : Hid (fv [be 8 n] = cW n) := rfl
  clear h0 h1
  go_enter Try.func15, Try.ntmps15
  go_wp2_with fail
  refine (PU.out _).mono ?_
  rintro e w1 ⟨g, rfl, hs, hb, hn⟩
  have GP := Lib.hid (heap_alloc_new w1 (.cells #[.slice (some ⟨g, 0, none⟩) 8 8] 43))
  have hal : Below w1.heap.size w1 (w1.alloc (.cells #[.slice (some ⟨g, 0, none⟩) 8 8] 43)) := (Below.refl _ _).alloc (Nat.le_refl _) _
  have S1 := Lib.hid (hs.below hal)
  have B1 := Lib.hid (BE.out.trans (hb.mono BE.out.size))
  have B2 := Lib.hid (B1.out.trans (hal.mono B1.out.size))
  have G1 := Lib.hid ((hb.block _ (blk_lt G0.out)).trans G0.out)
  have G2 := Lib.hid ((hal.block _ (blk_lt G1.out)).trans G1.out)
  clear hs hb hn hal BE G0 B1 G1
  go_wp2_with fail
  refine (VA.out _ _ _ GP.out S1.out).mono ?_
  rintro e w2 ⟨rfl, hb⟩
  rw [HW.out]
  have B3 := Lib.hid (B2.out.trans (hb.mono B2.out.size))
  have G3 := Lib.hid ((hb.block _ (blk_lt G2.out)).trans G2.out)
  clear hb B2 G2 GP S1
  generalize bcells (zs 44) = Z at *
  go_wp2_with (refine wpList_store_row rfl 38 (.tmp 2) (.tmp 6) rfl w.heap.size (bcells (cW n)) rfl rfl 38 Z G3.out IZ.out SZ.out OC.out ?_)
  exact bodyPost_ret (v := .agg (bcells (cW n))) (results_cell_row Try.results15 _ _ w.heap.size 38 _ (0, 0) _ rfl (setRow_heap _ _ _ _ _ _ G3.out) U38.out rfl IZ.out) rfl ⟨rfl, B3.out.trans (below_row _ _ (Nat.le_refl _))⟩
end Go.Proofs.Ytbhkhkiidaemcaa
