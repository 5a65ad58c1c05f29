/-
  Contracts of the document's row (how often each place is held, in a slice): New, Hold, Drop, Times, Free, Taken. Condition: the row lies in memory as a slice of ints.
-/
import Derived.Test.YtklhnibmpdaioaaG
namespace Go.Proofs.Ytklhnibmpdaioaa
open Go.RowKit
/-- Ints in a block. -/
def IX (w : World) (lb N : Nat) (f : Nat → Nat) : Prop := ∃ cs : Array Value, w.heap[lb]? = some (.cells cs 3 (0, 0)) ∧ cs.size = N ∧ ∀ k, k < N → cs[k]? = some (.int .i64 (f k : Nat))
/-- The document's row in memory. -/
structure XR (w : World) (g N lb : Nat) (f : Nat → Nat) : Prop where
  n2 : N ≤ 65536
  row : w.heap[g]? = some (.cells #[.slice (some ⟨lb, 0, none⟩) N N] 106 (0, 0))
  ints : IX w lb N f
  top : ∀ i, N ≤ i → f i = 0
  fb : ∀ i, f i ≤ 2147483647
theorem IX.same {w w' : World} {lb N : Nat} {f : Nat → Nat} (h : IX w lb N f) (hb : w'.heap[lb]? = w.heap[lb]?) : IX w' lb N f := by
  obtain ⟨cs, h1, r⟩ := h
  exact ⟨cs, hb.trans h1, r⟩
section
variable {w w' : World} {g N lb : Nat} {f : Nat → Nat}
theorem XR.lt (h : XR w g N lb f) : g < w.heap.size := (Array.getElem?_eq_some_iff.1 h.row).1
theorem IX.lt (h : IX w lb N f) : lb < w.heap.size := by obtain ⟨cs, h1, _⟩ := h; exact (Array.getElem?_eq_some_iff.1 h1).1
theorem XR.ne (h : XR w g N lb f) : g ≠ lb := by
  intro e
  obtain ⟨cs, h1, _⟩ := h.ints
  rw [← e, h.row] at h1
  injection h1 with h1
  injection h1 with _ h1
  cases h1
theorem XR.c0 (h : XR w g N lb f) : w.cell? ⟨g, 0, none⟩ = some (.slice (some ⟨lb, 0, none⟩) N N) := by rw [cell_of_row _ _ _ _ _ _ h.row]; rfl
theorem XR.at (h : XR w g N lb f) (i : Nat) (hi : i < N) : w.cell? ⟨lb, i, none⟩ = some (.int .i64 (f i : Nat)) := by
  obtain ⟨cs, h1, _, h3⟩ := h.ints
  rw [cell_of_row _ _ _ _ _ _ h1]; exact h3 i hi
theorem XR.fz (h : XR w g N lb f) (i : Nat) : w.frozen? ⟨lb, i, none⟩ = false := by
  obtain ⟨cs, h1, _⟩ := h.ints
  simp [World.frozen?, h1]
theorem XR.mods {S : Nat → Prop} (h : XR w g N lb f) (hm : Mods S w w') (h1 : ¬ S g) (h2 : ¬ S lb) : XR w' g N lb f :=
  ⟨h.n2, (hm.block g h.lt h1).trans h.row, h.ints.same (hm.block lb h.ints.lt h2), h.top, h.fb⟩
theorem XR.below (h : XR w g N lb f) (hb : Below w.heap.size w w') : XR w' g N lb f := h.mods (S := fun _ => False) (Mods.of_below hb) id id
theorem XR.heap (h : XR w g N lb f) (e : w'.heap = w.heap) : XR w' g N lb f := ⟨h.n2, by rw [e]; exact h.row, h.ints.same (by rw [e]), h.top, h.fb⟩
/-- One place is held as often as said. -/
theorem XR.set (h : XR w g N lb f) (i v : Nat) (hi : i < N) (hv : v ≤ 2147483647) : XR (w.setCell ⟨lb, i, none⟩ (.int .i64 v)) g N lb (upd f i v) ∧ Mods (fun k => k = lb) w (w.setCell ⟨lb, i, none⟩ (.int .i64 v)) := by
  refine ⟨⟨h.n2, ?_, ?_, fun j hj => ?_, fun j => ?_⟩, Mods.set (S := fun k => k = lb) w ⟨lb, i, none⟩ _ rfl⟩
  · rw [Below.heap_setCell _ _ _ _ (by exact h.ne)]; exact h.row
  · obtain ⟨cs, h1, h2, h3⟩ := h.ints
    refine ⟨cs.setIfInBounds i (.int .i64 v), by simp [World.setCell, Array.getElem?_modify, h1], by simp [h2], fun k hk => ?_⟩
    unfold upd
    by_cases e : k = i
    · subst e; rw [if_pos rfl]; exact Array.getElem?_setIfInBounds_self_of_lt (by omega)
    · rw [if_neg e, Array.getElem?_setIfInBounds_ne (by omega)]; exact h3 k hk
  · unfold upd; rw [if_neg (by omega)]; exact h.top j hj
  · unfold upd; split
    · exact hv
    · exact h.fb j
end
theorem info3 : (Try.prog.info? 3).map (fun i => (i.zero, i.size, i.bytes)) = some (some (.int .i64 0), 1, 8) := by kernel_rfl
theorem make104 (w : World) (n : Nat) (hn : n ≤ 65536) : (Instr.makeSlice 104 (.int .i64 n) (.int .i64 n)).run Try.prog w = .ok (.slice (some ⟨w.heap.size, 0, none⟩) n n) (w.alloc (.cells (Array.replicate n (.int .i64 0)) 3)) := by
  obtain ⟨i, hi, hz0, hz1, hz2⟩ := info_parts info3
  have h := run_make (P := Try.prog) w 104 3 i (.int .i64 0) Try.underlying104 hi hz0 .i64 .i64 n n (by omega) (by omega) (by rw [hz2]; omega) (by omega)
  simp only [Int.toNat_natCast] at h
  rw [h]
  have hm : madeCells (Value.int .i64 0).cells (n * i.size) = Array.replicate n (.int .i64 0) := by
    rw [hz1, Nat.mul_one]
    unfold madeCells
    apply Array.ext
    · simp
    · intro j h1 h2; simp [Value.cells, Nat.mod_one]
  rw [hm]
/-- A new row of the document's. -/
def NewXP (w : World) (N : Nat) (e : Ending) (w' : World) : Prop :=
  ∃ g lb, e = .returned (.tuple #[.pointer (some ⟨g, 0, none⟩), .int .i64 0]) ∧ XR w' g N lb (fun _ => 0) ∧ w.heap.size ≤ g ∧ w.heap.size ≤ lb ∧ Below w.heap.size w w'
set_option maxRecDepth 100000 in
theorem newX (N : Nat) (h1 : 1 ≤ N) (h2 : N ≤ 65536) (w : World) : Calls Try.prog 36 #[.int .i64 N] w (NewXP w N) := by
  have hk := make104 w N h2
  have hX : XR ((w.alloc (.cells (Array.replicate N (.int .i64 0)) 3)).alloc (.cells #[.slice (some ⟨w.heap.size, 0, none⟩) N N] 106)) (w.heap.size + 1) N w.heap.size (fun _ => 0) := by
    refine ⟨h2, ?_, ⟨Array.replicate N (.int .i64 0), ?_, by simp, fun k hk => by rw [Array.getElem?_replicate, if_pos hk]; rfl⟩, fun _ _ => rfl, fun _ => by omega⟩
    · have := heap_alloc_new (w.alloc (.cells (Array.replicate N (.int .i64 0)) 3)) (.cells #[.slice (some ⟨w.heap.size, 0, none⟩) N N] 106)
      simpa using this
    · rw [Below.heap_alloc _ _ _ (by simp)]; exact heap_alloc_new _ _
  have HX := Lib.hid hX
  clear hX
  go_enter Try.func36, Try.ntmps36
  go_wp2_with fail
  go_ret2
  exact ⟨_, _, rfl, HX.out, by omega, by omega, ((Below.refl _ _).alloc (Nat.le_refl _) _).alloc (by simp) _⟩
theorem newX_no (n : Int) (h : n < 1 ∨ 65536 < n) (w : World) :
    Calls Try.prog 36 #[.int .i64 n] w fun e w' => e = .returned (.tuple #[.pointer none, .int .i64 1]) ∧ w = w' := by
  rcases h with h | h
  · go_enter Try.func36, Try.ntmps36
    go_wp2
    go_ret2
    exact ⟨rfl, rfl⟩
  · have h' : ¬ n < 1 := by omega
    go_enter Try.func36, Try.ntmps36
    go_wp2
    go_ret2
    exact ⟨rfl, rfl⟩
/-- The document's row behind a change of one place. -/
def TurnX (w : World) (g N lb : Nat) (f : Nat → Nat) (r : Value) (e : Ending) (w' : World) : Prop := e = .returned r ∧ XR w' g N lb f ∧ Mods (fun k => k = lb) w w'
section
variable {w : World} {g N lb : Nat} {f : Nat → Nat}
set_option maxRecDepth 100000 in
theorem timesX (h : XR w g N lb f) (i : Int) : Calls Try.prog 44 #[.pointer (some ⟨g, 0, none⟩), .int .i64 i] w fun e w' => e = .returned (.int .i64 (tm f i)) ∧ w = w' := by
  have c0 := h.c0
  have n2 := h.n2
  unfold tm
  by_cases h0 : i < 0
  · rw [if_neg (by omega)]
    clear h
    go_enter Try.func44, Try.ntmps44
    go_wp2_with fail
    go_ret
    exact ⟨rfl, rfl⟩
  · obtain ⟨k, rfl⟩ : ∃ k : Nat, i = k := ⟨i.toNat, by omega⟩
    rw [if_pos (by omega), Int.toNat_natCast]
    by_cases h1 : k < N
    · have hc := h.at k h1
      have h2 : ¬ (N : Int) ≤ (k : Int) := by omega
      clear h h0
      go_enter Try.func44, Try.ntmps44
      go_wp2_with fail
      go_ret
      exact ⟨rfl, rfl⟩
    · have ht := h.top k (by omega)
      rw [ht]
      have h2 : (N : Int) ≤ (k : Int) := by omega
      clear h h0 ht h1
      go_enter Try.func44, Try.ntmps44
      go_wp2_with fail
      go_ret
      exact ⟨rfl, rfl⟩
set_option maxRecDepth 100000 in
set_option maxHeartbeats 1000000 in
theorem holdX (h : XR w g N lb f) (i : Int) : Calls Try.prog 40 #[.pointer (some ⟨g, 0, none⟩), .int .i64 i] w (TurnX w g N lb (hF N f i) (.int .i64 (hC N f i))) := by
  have c0 := h.c0
  have n2 := h.n2
  have HX := Lib.hid h
  unfold hF hC
  by_cases h0 : i < 0
  · rw [if_pos (.inl h0), if_pos (.inl h0)]
    clear h
    go_enter Try.func40, Try.ntmps40
    go_wp2_with fail
    go_ret
    exact ⟨rfl, HX.out, Mods.refl _ _⟩
  · obtain ⟨k, rfl⟩ : ∃ k : Nat, i = k := ⟨i.toNat, by omega⟩
    by_cases h1 : k < N
    · have hno : ¬ ((k : Int) < 0 ∨ (N : Int) ≤ (k : Int)) := by omega
      rw [if_neg hno, if_neg hno, Int.toNat_natCast]
      clear hno
      have hc := h.at k h1
      have hfz := h.fz k
      have h2 : ¬ (N : Int) ≤ (k : Int) := by omega
      have h2' : (k : Int) < (N : Int) := by omega
      by_cases hf : f k = 2147483647
      · rw [if_pos hf, if_pos hf]
        rw [hf] at hc
        clear h h0 hf
        go_enter Try.func40, Try.ntmps40
        go_wp2_with fail
        go_ret
        exact ⟨rfl, HX.out, Mods.refl _ _⟩
      · rw [if_neg hf, if_neg hf]
        have hfb := h.fb k
        obtain ⟨s1, s2⟩ := h.set k (f k + 1) h1 (by omega)
        have S1 := Lib.hid s1
        have S2 := Lib.hid s2
        have hne : ((f k : Int) == 2147483647) = false := by simp; omega
        have hwr : IntKind.i64.wrap ((f k : Int) + 1) = (f k : Int) + 1 := IntWalk.i64_in _ (by omega)
        clear h h0 hf s1 s2
        go_enter Try.func40, Try.ntmps40
        go_wp2_with fail
        refine wp_region_still_tail 14 (by kernel_rfl) (by kernel_rfl) ?_
        simp only [List.take_succ_cons, List.take_zero, List.drop_succ_cons, List.drop_zero]
        iterate 14 still_step
        refine wpStill_nil ?_
        change wpList _ _ _ _ _ w.drew
        go_wp2_with fail
        go_ret
        exact ⟨rfl, S1.out.heap rfl, S2.out.alike rfl rfl rfl rfl⟩
    · have hye : (k : Int) < 0 ∨ (N : Int) ≤ (k : Int) := by omega
      rw [if_pos hye, if_pos hye]
      clear hye
      have h2 : (N : Int) ≤ (k : Int) := by omega
      clear h h0 h1
      go_enter Try.func40, Try.ntmps40
      go_wp2_with fail
      go_ret
      exact ⟨rfl, HX.out, Mods.refl _ _⟩
set_option maxRecDepth 100000 in
set_option maxHeartbeats 1000000 in
theorem dropX (h : XR w g N lb f) (i : Int) : Calls Try.prog 42 #[.pointer (some ⟨g, 0, none⟩), .int .i64 i] w (TurnX w g N lb (dF N f i) (.tuple #[.bool (dB N f i), .int .i64 (dC N f i)])) := by
  have c0 := h.c0
  have n2 := h.n2
  have HX := Lib.hid h
  unfold dF dC dB
  by_cases h0 : i < 0
  · rw [if_pos (.inl h0), if_pos (.inl h0), if_pos (.inl h0)]
    clear h
    go_enter Try.func42, Try.ntmps42
    go_wp2_with fail
    go_ret2
    exact ⟨rfl, HX.out, Mods.refl _ _⟩
  · obtain ⟨k, rfl⟩ : ∃ k : Nat, i = k := ⟨i.toNat, by omega⟩
    by_cases h1 : k < N
    · have hno : ¬ ((k : Int) < 0 ∨ (N : Int) ≤ (k : Int)) := by omega
      rw [if_neg hno, if_neg hno, if_neg hno, Int.toNat_natCast]
      clear hno
      have hc := h.at k h1
      have hfz := h.fz k
      have h2 : ¬ (N : Int) ≤ (k : Int) := by omega
      have h2' : (k : Int) < (N : Int) := by omega
      by_cases hf : f k = 0
      · rw [if_pos hf, if_pos hf, if_pos hf]
        rw [hf] at hc
        clear h h0 hf
        go_enter Try.func42, Try.ntmps42
        go_wp2_with fail
        go_ret2
        exact ⟨rfl, HX.out, Mods.refl _ _⟩
      · rw [if_neg hf, if_neg hf, if_neg hf]
        have hfb := h.fb k
        obtain ⟨s1, s2⟩ := h.set k (f k - 1) h1 (by omega)
        have hs1 : ((f k - 1 : Nat) : Int) = (f k : Int) - 1 := by omega
        have HW := cell_of_row
        have c1 : (w.setCell ⟨lb, k, none⟩ (.int .i64 ((f k : Int) - 1))).cell? ⟨g, 0, none⟩ = some (.slice (some ⟨lb, 0, none⟩) N N) := by rw [← hs1]; exact s1.c0
        have c2 : (w.setCell ⟨lb, k, none⟩ (.int .i64 ((f k : Int) - 1))).cell? ⟨lb, k, none⟩ = some (.int .i64 ((f k : Int) - 1)) := by
          have := s1.at k h1
          unfold upd at this
          rw [if_pos rfl, hs1] at this
          exact this
        rw [hs1] at s1 s2
        have S1 := Lib.hid s1
        have S2 := Lib.hid s2
        have hne : ((f k : Int) == 0) = false := by simp; omega
        have hwr : IntKind.i64.wrap ((f k : Int) - 1) = (f k : Int) - 1 := IntWalk.i64_in _ (by omega)
        have hlast : (((f k : Int) - 1) == 0) = decide (f k = 1) := by
          rw [Bool.eq_iff_iff]; simp; omega
        obtain ⟨b, hb⟩ : ∃ b, decide (f k = 1) = b := ⟨_, rfl⟩
        rw [hb] at hlast ⊢
        clear h h0 hf s1 s2 HW hs1 hb
        go_enter Try.func42, Try.ntmps42
        go_wp2_with fail
        refine wp_region_still_tail 14 (by kernel_rfl) (by kernel_rfl) ?_
        simp only [List.take_succ_cons, List.take_zero, List.drop_succ_cons, List.drop_zero]
        iterate 14 still_step
        refine wpStill_nil ?_
        change wpList _ _ _ _ _ w.drew
        go_wp2_with fail
        go_ret2
        exact ⟨rfl, S1.out.heap rfl, S2.out.alike rfl rfl rfl rfl⟩
    · have hye : (k : Int) < 0 ∨ (N : Int) ≤ (k : Int) := by omega
      rw [if_pos hye, if_pos hye, if_pos hye]
      clear hye
      have h2 : (N : Int) ≤ (k : Int) := by omega
      clear h h0 h1
      go_enter Try.func42, Try.ntmps42
      go_wp2_with fail
      go_ret2
      exact ⟨rfl, HX.out, Mods.refl _ _⟩
end
end Go.Proofs.Ytklhnibmpdaioaa
