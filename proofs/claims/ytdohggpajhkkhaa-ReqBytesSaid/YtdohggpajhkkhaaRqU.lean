/-
  Contracts of the document's numbers, width, among, size. Condition: the slices read as numbers.
-/
import Derived.Test.YtdohggpajhkkhaaRqS
namespace Go.Proofs.Ytdohggpajhkkhaa
open Go.RowKit
def nA (k : Int) : List Nat := if k = 1 then [1] else if k = 2 then [0] else if k = 3 then [0, 2, 3, 4] else if k = 4 then [0, 2, 3] else if k = 5 then [0, 2, 3, 4] else if k = 6 then [0, 2, 4] else if k = 7 then [0, 2] else if k = 8 then [0, 2, 4] else if k = 9 then [0, 2, 5] else if k = 10 then [0] else if k = 11 then [0] else if k = 12 then [0] else if k = 13 then [0] else if k = 14 then [1] else if k = 15 then [1] else if k = 16 then [1] else []
def nK (k : Int) : List Nat := if k = 1 then [0] else if k = 2 then [] else if k = 3 then [] else if k = 4 then [] else if k = 5 then [] else if k = 6 then [] else if k = 7 then [] else if k = 8 then [] else if k = 9 then [] else if k = 10 then [] else if k = 11 then [] else if k = 12 then [0, 1, 3] else if k = 13 then [] else if k = 14 then [0, 2, 3] else if k = 15 then [] else if k = 16 then [] else []
def nB (k : Int) : List Nat := if k = 1 then [] else if k = 2 then [] else if k = 3 then [] else if k = 4 then [] else if k = 5 then [] else if k = 6 then [] else if k = 7 then [] else if k = 8 then [] else if k = 9 then [] else if k = 10 then [] else if k = 11 then [] else if k = 12 then [] else if k = 13 then [] else if k = 14 then [6, 7] else if k = 15 then [6, 7] else if k = 16 then [] else []
def icells (l : List Nat) : Array Value := (l.map fun (n : Nat) => Value.int .i64 (n : Int)).toArray
/-- A slice of numbers. -/
def SI (w : World) (v : Value) (l : List Nat) : Prop := (v = .slice none 0 0 ∧ l = []) ∨ ∃ g n, v = .slice (some ⟨g, 0, none⟩) n n ∧ n = l.length ∧ w.heap[g]? = some (.cells (icells l) 3 (0, 0))
theorem SI.below {w w' : World} {v : Value} {l : List Nat} (h : SI w v l) (hb : Below w.heap.size w w') : SI w' v l := by
  rcases h with h | ⟨g, n, h1, h2, h3⟩
  · exact .inl h
  · exact .inr ⟨g, n, h1, h2, (hb.block _ (blk_lt h3)).trans h3⟩
theorem SI.form {w : World} {v : Value} {l : List Nat} (h : SI w v l) : ∃ x cap, v = .slice x l.length cap := by
  rcases h with ⟨rfl, rfl⟩ | ⟨g, n, rfl, rfl, _⟩
  · exact ⟨none, 0, rfl⟩
  · exact ⟨_, _, rfl⟩
theorem SI.at {w : World} {x : Option Addr} {n c : Nat} {l : List Nat} (h : SI w (.slice x n c) l) {i a : Nat} (hi : l[i]? = some a) : ∃ g, x = some ⟨g, 0, none⟩ ∧ w.cell? ⟨g, i, none⟩ = some (.int .i64 a) := by
  rcases h with ⟨_, rfl⟩ | ⟨g, m, e, _, h3⟩
  · simp at hi
  · cases e
    refine ⟨g, rfl, ?_⟩
    rw [cell_of_row w g i _ _ _ h3]
    simp [icells, hi]
def NumsP (w : World) (k : Int) (e : Ending) (w' : World) : Prop := ∃ va vk vb, e = .returned (.tuple #[va, vk, vb]) ∧ SI w' va (nA k) ∧ SI w' vk (nK k) ∧ SI w' vb (nB k) ∧ Below w.heap.size w w'
theorem si_nil (w : World) : SI w (.slice none 0 0) [] := .inl ⟨rfl, rfl⟩
theorem si_new {w : World} {g n : Nat} {l : List Nat} (h : w.heap[g]? = some (.cells (icells l) 3 (0, 0))) (hn : n = l.length) : SI w (.slice (some ⟨g, 0, none⟩) n n) l := .inr ⟨g, n, rfl, hn, h⟩
theorem nums_no {k : Int} (h : kindB k = false) : nA k = [] ∧ nK k = [] ∧ nB k = [] := by
  have h1 : k < 1 ∨ 16 < k := by
    unfold kindB at h
    rcases Int.lt_or_le k 1 with h2 | h2
    · exact .inl h2
    · refine .inr (Int.not_le.1 fun h3 => ?_)
      simp [h2, h3] at h
  unfold nA nK nB
  repeat rw [if_neg (by omega)]
  exact ⟨rfl, rfl, rfl⟩
def mkI (w : World) (l : List Nat) : World := w.alloc (.cells (icells l) 3)
theorem mkI_b (w : World) (l : List Nat) : Below w.heap.size w (mkI w l) := (Below.refl _ _).alloc (Nat.le_refl _) _
theorem mkI_z (w : World) (l : List Nat) : (mkI w l).heap.size = w.heap.size + 1 := by simp [mkI]
theorem mkI_s (w : World) (l : List Nat) (n g : Nat) (hn : n = l.length) (hg : g = w.heap.size) : SI (mkI w l) (.slice (some ⟨g, 0, none⟩) n n) l := by subst hg; exact si_new (heap_alloc_new w _) hn
theorem nums1 (w : World) (k : Int) (a : List Nat) (n : Nat) (hn : n = a.length) (h1 : nA k = a) (h2 : nK k = []) (h3 : nB k = []) : NumsP w k (.returned (.tuple #[.slice (some ⟨w.heap.size, 0, none⟩) n n, .slice none 0 0, .slice none 0 0])) (mkI w a) :=
  ⟨_, _, _, rfl, by rw [h1]; exact mkI_s w a n _ hn rfl, by rw [h2]; exact si_nil _, by rw [h3]; exact si_nil _, mkI_b w a⟩
theorem nums2 (w : World) (k : Int) (a b : List Nat) (n m : Nat) (hn : n = a.length) (hm : m = b.length) (h1 : nA k = a) (h2 : nK k = b) (h3 : nB k = []) : NumsP w k (.returned (.tuple #[.slice (some ⟨w.heap.size, 0, none⟩) n n, .slice (some ⟨w.heap.size + 1, 0, none⟩) m m, .slice none 0 0])) (mkI (mkI w a) b) :=
  ⟨_, _, _, rfl, by rw [h1]; exact (mkI_s w a n _ hn rfl).below (mkI_b _ _), by rw [h2]; exact mkI_s _ b m _ hm (mkI_z w a).symm, by rw [h3]; exact si_nil _, (mkI_b w a).trans ((mkI_b _ b).mono (by rw [mkI_z]; omega))⟩
theorem nums2b (w : World) (k : Int) (a b : List Nat) (n m : Nat) (hn : n = a.length) (hm : m = b.length) (h1 : nA k = a) (h2 : nK k = []) (h3 : nB k = b) : NumsP w k (.returned (.tuple #[.slice (some ⟨w.heap.size, 0, none⟩) n n, .slice none 0 0, .slice (some ⟨w.heap.size + 1, 0, none⟩) m m])) (mkI (mkI w a) b) :=
  ⟨_, _, _, rfl, by rw [h1]; exact (mkI_s w a n _ hn rfl).below (mkI_b _ _), by rw [h2]; exact si_nil _, by rw [h3]; exact mkI_s _ b m _ hm (mkI_z w a).symm, (mkI_b w a).trans ((mkI_b _ b).mono (by rw [mkI_z]; omega))⟩
theorem nums3 (w : World) (k : Int) (a b c : List Nat) (n m l : Nat) (hn : n = a.length) (hm : m = b.length) (hl : l = c.length) (h1 : nA k = a) (h2 : nK k = b) (h3 : nB k = c) : NumsP w k (.returned (.tuple #[.slice (some ⟨w.heap.size, 0, none⟩) n n, .slice (some ⟨w.heap.size + 1, 0, none⟩) m m, .slice (some ⟨w.heap.size + 2, 0, none⟩) l l])) (mkI (mkI (mkI w a) b) c) :=
  ⟨_, _, _, rfl, by rw [h1]; exact ((mkI_s w a n _ hn rfl).below (mkI_b _ _)).below (mkI_b _ _), by rw [h2]; exact (mkI_s _ b m _ hm (mkI_z w a).symm).below (mkI_b _ _), by rw [h3]; exact mkI_s _ c l _ hl (by rw [mkI_z, mkI_z]), ((mkI_b w a).trans ((mkI_b _ b).mono (by rw [mkI_z]; omega))).trans ((mkI_b _ c).mono (by rw [mkI_z, mkI_z]; omega))⟩
set_option maxRecDepth 100000 in
set_option maxHeartbeats 2000000 in
theorem numsC (k : Int) (w : World) : Calls Try.prog 21 #[.int .i64 k] w (NumsP w k) := by
  cases hb : kindB k with
  | false =>
    obtain ⟨e1, e2, e3⟩ := nums_no hb
    have QQ : Hid (∀ W : World, Below w.heap.size w W → NumsP w k (.returned (.tuple #[.slice none 0 0, .slice none 0 0, .slice none 0 0])) W) := fun W hb => ⟨_, _, _, rfl, by rw [e1]; exact si_nil W, by rw [e2]; exact si_nil W, by rw [e3]; exact si_nil W, hb⟩
    have h1 : k < 1 ∨ 16 < k := by
      unfold kindB at hb
      rcases Int.lt_or_le k 1 with h2 | h2
      · exact .inl h2
      · refine .inr (Int.not_le.1 fun h3 => ?_)
        simp [h2, h3] at hb
    clear hb e1 e2 e3
    have n1 : (k == 1) = false := beq_eq_false_iff_ne.2 (by omega)
    have n2 : (k == 2) = false := beq_eq_false_iff_ne.2 (by omega)
    have n3 : (k == 3) = false := beq_eq_false_iff_ne.2 (by omega)
    have n4 : (k == 4) = false := beq_eq_false_iff_ne.2 (by omega)
    have n5 : (k == 5) = false := beq_eq_false_iff_ne.2 (by omega)
    have n6 : (k == 6) = false := beq_eq_false_iff_ne.2 (by omega)
    have n7 : (k == 7) = false := beq_eq_false_iff_ne.2 (by omega)
    have n8 : (k == 8) = false := beq_eq_false_iff_ne.2 (by omega)
    have n9 : (k == 9) = false := beq_eq_false_iff_ne.2 (by omega)
    have n10 : (k == 10) = false := beq_eq_false_iff_ne.2 (by omega)
    have n11 : (k == 11) = false := beq_eq_false_iff_ne.2 (by omega)
    have n12 : (k == 12) = false := beq_eq_false_iff_ne.2 (by omega)
    have n13 : (k == 13) = false := beq_eq_false_iff_ne.2 (by omega)
    have n14 : (k == 14) = false := beq_eq_false_iff_ne.2 (by omega)
    have n15 : (k == 15) = false := beq_eq_false_iff_ne.2 (by omega)
    have n16 : (k == 16) = false := beq_eq_false_iff_ne.2 (by omega)
    clear h1
    go_enter Try.func21, Try.ntmps21
    go_wp2
    exact bodyPost_ret (v := .tuple #[.slice none 0 0, .slice none 0 0, .slice none 0 0]) (by simp [results, Try.results21, go_sem]) rfl (QQ.out _ (Below.refl _ _))
  | true =>
    rcases kind_cases hb with rfl | rfl | rfl | rfl | rfl | rfl | rfl | rfl | rfl | rfl | rfl | rfl | rfl | rfl | rfl | rfl
    · clear hb
      have QQ := Lib.hid (nums2 w 1 [1] [0] 1 1 rfl rfl rfl rfl rfl)
      go_enter Try.func21, Try.ntmps21
      go_wp2
      exact bodyPost_ret (by simp [results, Try.results21, go_sem]) rfl QQ.out
    · clear hb
      have QQ := Lib.hid (nums1 w 2 [0] 1 rfl rfl rfl rfl)
      go_enter Try.func21, Try.ntmps21
      go_wp2
      exact bodyPost_ret (by simp [results, Try.results21, go_sem]) rfl QQ.out
    · clear hb
      have QQ := Lib.hid (nums1 w 3 [0, 2, 3, 4] 4 rfl rfl rfl rfl)
      go_enter Try.func21, Try.ntmps21
      go_wp2
      exact bodyPost_ret (by simp [results, Try.results21, go_sem]) rfl QQ.out
    · clear hb
      have QQ := Lib.hid (nums1 w 4 [0, 2, 3] 3 rfl rfl rfl rfl)
      go_enter Try.func21, Try.ntmps21
      go_wp2
      exact bodyPost_ret (by simp [results, Try.results21, go_sem]) rfl QQ.out
    · clear hb
      have QQ := Lib.hid (nums1 w 5 [0, 2, 3, 4] 4 rfl rfl rfl rfl)
      go_enter Try.func21, Try.ntmps21
      go_wp2
      exact bodyPost_ret (by simp [results, Try.results21, go_sem]) rfl QQ.out
    · clear hb
      have QQ := Lib.hid (nums1 w 6 [0, 2, 4] 3 rfl rfl rfl rfl)
      go_enter Try.func21, Try.ntmps21
      go_wp2
      exact bodyPost_ret (by simp [results, Try.results21, go_sem]) rfl QQ.out
    · clear hb
      have QQ := Lib.hid (nums1 w 7 [0, 2] 2 rfl rfl rfl rfl)
      go_enter Try.func21, Try.ntmps21
      go_wp2
      exact bodyPost_ret (by simp [results, Try.results21, go_sem]) rfl QQ.out
    · clear hb
      have QQ := Lib.hid (nums1 w 8 [0, 2, 4] 3 rfl rfl rfl rfl)
      go_enter Try.func21, Try.ntmps21
      go_wp2
      exact bodyPost_ret (by simp [results, Try.results21, go_sem]) rfl QQ.out
    · clear hb
      have QQ := Lib.hid (nums1 w 9 [0, 2, 5] 3 rfl rfl rfl rfl)
      go_enter Try.func21, Try.ntmps21
      go_wp2
      exact bodyPost_ret (by simp [results, Try.results21, go_sem]) rfl QQ.out
    · clear hb
      have QQ := Lib.hid (nums1 w 10 [0] 1 rfl rfl rfl rfl)
      go_enter Try.func21, Try.ntmps21
      go_wp2
      exact bodyPost_ret (by simp [results, Try.results21, go_sem]) rfl QQ.out
    · clear hb
      have QQ := Lib.hid (nums1 w 11 [0] 1 rfl rfl rfl rfl)
      go_enter Try.func21, Try.ntmps21
      go_wp2
      exact bodyPost_ret (by simp [results, Try.results21, go_sem]) rfl QQ.out
    · clear hb
      have QQ := Lib.hid (nums2 w 12 [0] [0, 1, 3] 1 3 rfl rfl rfl rfl rfl)
      go_enter Try.func21, Try.ntmps21
      go_wp2
      exact bodyPost_ret (by simp [results, Try.results21, go_sem]) rfl QQ.out
    · clear hb
      have QQ := Lib.hid (nums1 w 13 [0] 1 rfl rfl rfl rfl)
      go_enter Try.func21, Try.ntmps21
      go_wp2
      exact bodyPost_ret (by simp [results, Try.results21, go_sem]) rfl QQ.out
    · clear hb
      have QQ := Lib.hid (nums3 w 14 [1] [0, 2, 3] [6, 7] 1 3 2 rfl rfl rfl rfl rfl rfl)
      go_enter Try.func21, Try.ntmps21
      go_wp2
      exact bodyPost_ret (by simp [results, Try.results21, go_sem]) rfl QQ.out
    · clear hb
      have QQ := Lib.hid (nums2b w 15 [1] [6, 7] 1 2 rfl rfl rfl rfl rfl)
      go_enter Try.func21, Try.ntmps21
      go_wp2
      exact bodyPost_ret (by simp [results, Try.results21, go_sem]) rfl QQ.out
    · clear hb
      have QQ := Lib.hid (nums1 w 16 [1] 1 rfl rfl rfl rfl)
      go_enter Try.func21, Try.ntmps21
      go_wp2
      exact bodyPost_ret (by simp [results, Try.results21, go_sem]) rfl QQ.out
set_option maxRecDepth 100000 in
theorem widthC (k : Nat) (hk : k < 8) (w : World) : Calls Try.prog 23 #[.int .i64 k] w fun e w' => e = .returned (.int .i64 (if k = 1 ∨ k = 2 ∨ k = 5 then 1 else 2)) ∧ w = w' := by
  have h : k = 0 ∨ k = 1 ∨ k = 2 ∨ k = 3 ∨ k = 4 ∨ k = 5 ∨ k = 6 ∨ k = 7 := by omega
  rcases h with rfl | rfl | rfl | rfl | rfl | rfl | rfl | rfl
  all_goals
    clear hk
    go_enter Try.func23, Try.ntmps23
    go_wp2
    go_ret
    exact ⟨rfl, rfl⟩
def amB (l : List Nat) (k : Nat) : Bool := l.contains k
set_option maxRecDepth 100000 in
set_option maxHeartbeats 1000000 in
theorem amongC (l : List Nat) (v : Value) (k : Nat) (w : World) (h : SI w v l) (hl : l.length ≤ 8) : Calls Try.prog 32 #[v, .int .i64 k] w fun e w' => e = .returned (.bool (amB l k)) ∧ w = w' := by
  obtain ⟨x, c, rfl⟩ := h.form
  have H := Lib.hid h
  have HL := Lib.hid hl
  clear h
  go_enter Try.func32, Try.ntmps32
  go_wp2
  go_loop [5] (fun i => ∃ j : Nat, j ≤ l.length ∧ i = .int .i64 j ∧ ∀ m, m < j → l[m]? ≠ some k) (fun i => l.length - (intOf i).toNat)
  case atStart => exact ⟨0, Nat.zero_le _, rfl, fun m hm => absurd hm (Nat.not_lt_zero m)⟩
  case round =>
    obtain ⟨j, hj, rfl, hn⟩ := hrel
    by_cases hlt : j < l.length
    · obtain ⟨g, rfl, cc⟩ := H.out.at (List.getElem?_eq_getElem hlt)
      have HN := Lib.hid hn
      generalize ha : l[j] = a at cc
      have HA := Lib.hid ha
      clear hn ha
      by_cases he : a = k
      · subst he
        have hc : Hid (amB l a = true) := by
          show _ = _
          rw [amB, List.contains_iff_mem, ← HA.out]
          exact List.getElem_mem _
        go_wp2
        go_ret
        exact ⟨by rw [hc.out]; rfl, rfl⟩
      · have ne : (a == k) = false := beq_eq_false_iff_ne.2 he
        have ne2 : ((a : Int) == (k : Int)) = false := beq_eq_false_iff_ne.2 (by omega)
        clear he
        go_wp2
        go_round
        case rel =>
          refine ⟨j + 1, by omega, by go_num, fun m hm => ?_⟩
          rcases Nat.lt_succ_iff_lt_or_eq.1 hm with h1 | rfl
          · exact HN.out m h1
          · rw [List.getElem?_eq_getElem hlt, HA.out]
            intro e
            have := Option.some.inj e
            simp [this] at ne
        case measure => simp [intOf]; omega
    · have hc : Hid (amB l k = false) := by
        show _ = _
        rw [amB, Bool.eq_false_iff, ne_eq, List.contains_iff_mem]
        intro hm
        obtain ⟨m, hm1, hm2⟩ := List.getElem_of_mem hm
        exact hn m (by omega) (by rw [List.getElem?_eq_getElem hm1, hm2])
      clear hn
      go_wp2
      go_ret
      exact ⟨by rw [hc.out]; rfl, rfl⟩
end Go.Proofs.Ytdohggpajhkkhaa
