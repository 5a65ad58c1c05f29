/-
  Slices of extents of a law's own: one more is appended, one is taken away. Condition: none.
-/
import Derived.Test.YtjgkochbfjlinaaL
namespace Go.Proofs.Ytjgkochbfjlinaa
open Go.RowKit
def u32s (xs : List Nat) : List Value := xs.map fun x => .int .u32 (x : Nat)
/-- A slice of extents. -/
def LS (w : World) (B : Nat) (x : Option Addr) (c : Nat) (xs : List Nat) : Prop :=
  (x = none ∧ c = 0 ∧ xs = []) ∨ ∃ (g : Nat) (cur : Array Value), x = some ⟨g, 0, none⟩ ∧ B ≤ g ∧ w.heap[g]? = some (.cells cur 23 (0, 0)) ∧ xs.length ≤ c ∧ c ≤ maxLen ∧ c ≤ cur.size ∧ ∀ (i y : Nat), xs[i]? = some y → cur[i]? = some (Value.int .u32 (y : Nat))
/-- The block of a slice. -/
def ob (x : Option Addr) (k : Nat) : Prop := ∃ a, x = some a ∧ a.block = k
section
variable {w w' : World} {B c : Nat} {x : Option Addr} {xs : List Nat}
theorem LS.mods {S : Nat → Prop} (h : LS w B x c xs) (m : Mods S w w') (hS : ∀ k, ob x k → ¬ S k) : LS w' B x c xs := by
  rcases h with h | ⟨g, cur, hx, hB, hg, r⟩
  · exact .inl h
  · exact .inr ⟨g, cur, hx, hB, (m.block g (Array.getElem?_eq_some_iff.1 hg).1 (hS g ⟨_, hx, rfl⟩)).trans hg, r⟩
theorem LS.below (h : LS w B x c xs) (hb : Below w.heap.size w w') : LS w' B x c xs := h.mods (S := fun _ => False) (Mods.of_below hb) (fun _ _ => id)
theorem LS.lt (h : LS w B x c xs) (k : Nat) (hk : ob x k) : k < w.heap.size ∧ B ≤ k := by
  obtain ⟨a, hx, rfl⟩ := hk
  rcases h with h | ⟨g, cur, hx2, hB, hg, r⟩
  · rw [h.1] at hx; cases hx
  · rw [hx2] at hx; injection hx with hx; rw [← hx]; exact ⟨(Array.getElem?_eq_some_iff.1 hg).1, hB⟩
theorem LS.cell (h : LS w B x c xs) (i y : Nat) (hi : xs[i]? = some y) : ∃ g, x = some ⟨g, 0, none⟩ ∧ w.cell? ⟨g, i, none⟩ = some (.int .u32 (y : Nat)) := by
  rcases h with h | ⟨g, cur, hx, hB, hg, _, _, _, h4⟩
  · rw [h.2.2] at hi; simp at hi
  · exact ⟨g, hx, by rw [cell_of_row _ _ _ _ _ _ hg]; exact h4 i y hi⟩
theorem LS.cle (h : LS w B x c xs) : xs.length ≤ c ∧ c ≤ maxLen := by
  rcases h with h | ⟨g, cur, hx, hB, hg, h1, h2, _⟩
  · rw [h.2.1, h.2.2]; exact ⟨Nat.le_refl _, by decide⟩
  · exact ⟨h1, h2⟩
/-- It lies apart from a field. -/
theorem LS.od {og wh g rb mb wb N : Nat} {s : St} {W : Nat → Int} (h : LS w B x c xs) (o : OD w og wh g rb mb wb N s W) (k : Nat) (hk : ob x k) : k ≠ og ∧ k ≠ wh ∧ k ≠ g ∧ k ≠ rb ∧ k ≠ mb ∧ k ≠ wb := by
  obtain ⟨a, hx, rfl⟩ := hk
  rcases h with h | ⟨b, cur, hx2, hB, e, r⟩
  · rw [h.1] at hx; cases hx
  · rw [hx2] at hx; injection hx with hx; rw [← hx]
    show b ≠ og ∧ b ≠ wh ∧ b ≠ g ∧ b ≠ rb ∧ b ≠ mb ∧ b ≠ wb
    refine ⟨?_, ?_, ?_, ?_, ?_, ?_⟩ <;> intro k <;> rw [k] at e
    · rw [o.own] at e; injection e with e; injection e with _ e; cases e
    · obtain ⟨cs, h1, _⟩ := o.who; rw [h1] at e; injection e with e; injection e with _ e; cases e
    · rw [o.fs.blk] at e; injection e with e; injection e with _ e; cases e
    · rw [o.fs.row.row] at e; injection e with e; injection e with _ e; cases e
    · obtain ⟨es, c, h1⟩ := o.fs.row.map.isMap; rw [h1] at e; cases e
    · obtain ⟨cs, wd, h1, _⟩ := o.fs.row.wds; rw [h1] at e; injection e with e; injection e with _ e; cases e
theorem u32s_at (xs : List Nat) (i : Nat) : (u32s xs)[i]? = (xs[i]?).map fun x => .int .u32 (x : Nat) := by simp [u32s]
theorem LS.of_owns {base n : Nat} {v : Value} (h : w.ownsRow base 23 1 v n (u32s xs)) (hn : n = xs.length) (h0 : 1 ≤ n) : ∃ x' c', v = .slice x' n c' ∧ LS w base x' c' xs ∧ ∀ k, ob x' k → v.ownBlock = some k := by
  obtain ⟨hl, h | ⟨g, cap, cur, rfl, hb, hg, h1, h2, h3, h4⟩⟩ := h
  · omega
  · refine ⟨_, cap, rfl, .inr ⟨g, cur, rfl, hb, hg, by omega, h2, by omega, fun i y hi => ?_⟩, fun k ⟨a, ha, hk⟩ => ?_⟩
    · have h5 : (u32s xs)[i]? = some (.int .u32 (y : Nat)) := by rw [u32s_at, hi]; rfl
      have hil : i < n := by rw [hn]; exact (List.getElem?_eq_some_iff.1 hi).1
      rw [← h4, Nat.mul_one, List.getElem?_take_of_lt hil] at h5
      simpa using h5
    · injection ha with ha; subst ha; subst hk; rfl
end
theorem info23 : (Try.prog.info? 23).map (fun i => (i.zero, i.size, i.bytes)) = some (some (.int .u32 0), 1, 4) := by kernel_rfl
/-- One more. -/
theorem LS.push {w : World} {B c : Nat} {x : Option Addr} {xs : List Nat} (h : LS w B x c xs) (y : Nat) (hB : B ≤ w.heap.size) (hn : xs.length ≤ 1000) :
    ∃ x' c' w', (Builtin.append_ #[71, 71] 71 #[.slice x xs.length c, .slice (some ⟨w.heap.size, 0, none⟩) 1 1]).run Try.prog (w.alloc (.cells #[.int .u32 (y : Nat)] 23)) = .ok (.slice x' (xs.length + 1) c') w' ∧
      LS w' B x' c' (xs ++ [y]) ∧ Mods (ob x) w w' ∧ (∀ k, ob x' k → ob x k ∨ w.heap.size ≤ k) := by
  obtain ⟨i, hi, hz0, hz1, hz2⟩ := info_parts info23
  have hm : Below w.heap.size w (w.alloc (.cells #[.int .u32 (y : Nat)] 23)) := (Below.refl _ _).alloc (Nat.le_refl _) _
  have hnews : ∀ j u, ([.int .u32 (y : Nat)] : List Value)[j]? = some u → (w.alloc (.cells #[.int .u32 (y : Nat)] 23)).cell? ((⟨w.heap.size, 0, none⟩ : Addr).add j) = some u := fun j u hj => by
    match j, hj with
    | 0, hj =>
      simp at hj
      rw [addr_add, cell_of_row _ _ _ _ _ _ (heap_alloc_new _ _), ← hj]; rfl
  have hmax : (2000 : Nat) ≤ maxLen := by decide
  have h1 := h.below hm
  have conv : ∀ (v' : Value) (w' : World) (base : Nat), base = w.heap.size + 1 → w'.ownsRow base 23 1 v' (xs.length + 1) (u32s xs ++ [.int .u32 (y : Nat)]) → ∃ x' c', v' = .slice x' (xs.length + 1) c' ∧ LS w' base x' c' (xs ++ [y]) ∧ ∀ k, ob x' k → v'.ownBlock = some k := fun v' w' base _ ho => by
    have e : u32s xs ++ [.int .u32 (y : Nat)] = u32s (xs ++ [y]) := by simp [u32s]
    rw [e] at ho
    exact LS.of_owns ho (by simp) (by omega)
  have hsz : (w.alloc (.cells #[.int .u32 (y : Nat)] 23)).heap.size = w.heap.size + 1 := by simp
  have raise : ∀ {w' : World} {x' c'} {base : Nat}, B ≤ base → LS w' base x' c' (xs ++ [y]) → LS w' B x' c' (xs ++ [y]) := fun hb hl => by
    rcases hl with hl | ⟨g, cur, a1, a2, a3⟩
    · exact .inl hl
    · exact .inr ⟨g, cur, a1, by omega, a3⟩
  rcases h with ⟨rfl, rfl, rfl⟩ | ⟨g, cur, rfl, hBg, hg, h2, h3, h4, h5⟩
  · obtain ⟨v', w', hr, ho, hgr, _⟩ := run_append_own (P := Try.prog) (w := w.alloc (.cells #[.int .u32 (y : Nat)] 23)) (w.heap.size + 1) 71 71 23 i _ 1 4 Try.underlying71 hi hz0 hz1 hz2 rfl (by decide) (.slice none 0 0) 0 [] (World.ownsRow_nil _ _ 23 1) ⟨w.heap.size, 0, none⟩ 1 1 [.int .u32 (y : Nat)] rfl hnews (by simp [Value.oneCell']) (by omega) (by omega) (by omega)
    obtain ⟨x', c', rfl, hL, hk⟩ := conv v' w' _ rfl ho
    refine ⟨x', c', w', hr, raise (by omega) hL, ?_, fun k hk2 => .inr ?_⟩
    · refine (Mods.of_below hm).trans (Mods.of_grown (r := none) hgr) (fun b hb => by cases hb)
    · have := (hL.lt k hk2).2; omega
  · have hg1 : (w.alloc (.cells #[.int .u32 (y : Nat)] 23)).heap[g]? = some (.cells cur 23 (0, 0)) := (hm.block g (Array.getElem?_eq_some_iff.1 hg).1).trans hg
    have hgl := (Array.getElem?_eq_some_iff.1 hg).1
    by_cases hroom : xs.length + 1 ≤ c
    · have hr := run_append_room_cells (P := Try.prog) (w := w.alloc (.cells #[.int .u32 (y : Nat)] 23)) 71 71 23 i Try.underlying71 hi g 0 xs.length c ⟨w.heap.size, 0, none⟩ 1 1 [.int .u32 (y : Nat)] (by simp [hz1]) hnews (by simp [Value.oneCell']) hroom
        (fun j hj => by rw [cell_of_row _ _ _ _ _ _ hg1, hz1]; simp at hj ⊢; omega) (fun j hj => by simp [World.frozen?, hg1])
      rw [hz1, Nat.mul_one, Nat.zero_add] at hr
      refine ⟨_, _, _, hr, .inr ⟨g, cur.setIfInBounds xs.length (.int .u32 (y : Nat)), rfl, hBg, ?_, by simpa using hroom, h3, by simpa using h4, fun j z hj => ?_⟩, ?_, fun k hk => .inl hk⟩
      · exact blk_set hg1 _ _
      · rw [Array.getElem?_setIfInBounds]
        by_cases e : xs.length = j
        · subst e
          rw [if_pos rfl, if_pos (by omega)]
          simp at hj
          rw [hj]
        · rw [if_neg e]
          have hjl : j < xs.length := by
            have := (List.getElem?_eq_some_iff.1 hj).1
            simp at this
            omega
          rw [List.getElem?_append_left hjl] at hj
          exact h5 j z hj
      · exact (Mods.of_below hm).trans (Mods.sets (S := ob (some ⟨g, 0, none⟩)) g ⟨_, rfl, rfl⟩ _ _ _) (fun _ hb => .inl hb)
    · have holds : ∀ j u, (u32s xs)[j]? = some u → (w.alloc (.cells #[.int .u32 (y : Nat)] 23)).cell? ((⟨g, 0, none⟩ : Addr).add j) = some u := fun j u hj => by
        rw [addr_add, cell_of_row _ _ _ _ _ _ hg1, Nat.zero_add]
        rw [u32s_at] at hj
        cases hx : xs[j]? with
        | none => rw [hx] at hj; cases hj
        | some z => rw [hx] at hj; injection hj with hj; rw [h5 j z hx, ← hj]
      obtain ⟨v', w', hr, ho, hgr⟩ := run_append_arg_grows (P := Try.prog) (w := w.alloc (.cells #[.int .u32 (y : Nat)] 23)) 71 71 23 i _ 1 4 Try.underlying71 hi hz0 hz1 hz2 rfl (by decide) ⟨g, 0, none⟩ xs.length c (u32s xs) (by simp [u32s]) holds ⟨w.heap.size, 0, none⟩ 1 1 [.int .u32 (y : Nat)] rfl hnews (by omega) (by omega) (by omega)
      obtain ⟨x', c', rfl, hL, hk⟩ := conv v' w' _ hsz ho
      refine ⟨x', c', w', hr, raise (by omega) hL, ?_, fun k hk2 => .inr ?_⟩
      · refine (Mods.of_below hm).trans (Mods.of_grown (r := none) hgr) (fun b hb => by cases hb)
      · have := (hL.lt k hk2).2; omega
/-- One is taken away. -/
theorem LS.cut {w : World} {B c g : Nat} {xs : List Nat} (h : LS w B (some ⟨g, 0, none⟩) c xs) (k : Nat) (hk : k < xs.length) (hB : B ≤ w.heap.size) (hn : xs.length ≤ 1000) (a : Addr) (ha : a = if c = k + 1 then ⟨g, 0, none⟩ else ⟨g, k + 1, none⟩) :
    ∃ x' c' w', (Builtin.append_ #[71, 71] 71 #[.slice (some ⟨g, 0, none⟩) k k, .slice (some a) (xs.length - (k + 1)) (c - (k + 1))]).run Try.prog w = .ok (.slice x' (xs.length - 1) c') w' ∧
      LS w' B x' c' (xs.eraseIdx k) ∧ Below w.heap.size w w' ∧ (∀ j, ob x' j → ob (some ⟨g, 0, none⟩) j ∨ w.heap.size ≤ j) := by
  obtain ⟨i, hi, hz0, hz1, hz2⟩ := info_parts info23
  have hmax : (2000 : Nat) ≤ maxLen := by decide
  rcases h with ⟨h, _⟩ | ⟨g', cur, hx, hBg, hg, h2, h3, h4, h5⟩
  · cases h
  · injection hx with hx
    injection hx with hx
    subst hx
    have he : xs.eraseIdx k = xs.take k ++ xs.drop (k + 1) := List.eraseIdx_eq_take_drop_succ xs k
    by_cases hlast : k + 1 = xs.length
    · have hr := run_append_room_cells (P := Try.prog) (w := w) 71 71 23 i Try.underlying71 hi g 0 k k a 0 (c - (k + 1)) [] (by simp) (fun j u hj => by simp at hj) (by simp) (by omega) (fun j hj => by simp at hj) (fun j hj => by simp at hj)
      refine ⟨some ⟨g, 0, none⟩, k, w, ?_, .inr ⟨g, cur, rfl, hBg, hg, ?_, by omega, by omega, fun j z hj => ?_⟩, Below.refl _ _, fun j hj => .inl hj⟩
      · rw [show xs.length - (k + 1) = 0 by omega, show xs.length - 1 = k by omega]
        exact hr
      · rw [List.length_eraseIdx_of_lt hk]; omega
      · rw [he, List.drop_eq_nil_of_le (by omega), List.append_nil] at hj
        have hjk : j < k := by
          have := (List.getElem?_eq_some_iff.1 hj).1
          simp at this
          omega
        rw [List.getElem?_take_of_lt hjk] at hj
        exact h5 j z hj
    · have holds : ∀ j u, (u32s (xs.take k))[j]? = some u → w.cell? ((⟨g, 0, none⟩ : Addr).add j) = some u := fun j u hj => by
        rw [addr_add, cell_of_row _ _ _ _ _ _ hg, Nat.zero_add]
        rw [u32s_at] at hj
        cases hx : (xs.take k)[j]? with
        | none => rw [hx] at hj; cases hj
        | some z =>
          rw [hx] at hj; injection hj with hj
          have hjk : j < k := by
            have := (List.getElem?_eq_some_iff.1 hx).1
            simp at this
            omega
          rw [List.getElem?_take_of_lt hjk] at hx
          rw [h5 j z hx, ← hj]
      have ea : a = ⟨g, k + 1, none⟩ := by rw [ha, if_neg (by omega)]
      have hnews : ∀ j u, (u32s (xs.drop (k + 1)))[j]? = some u → w.cell? (a.add j) = some u := fun j u hj => by
        rw [ea, addr_add, cell_of_row _ _ _ _ _ _ hg]
        rw [u32s_at, List.getElem?_drop] at hj
        cases hx : xs[k + 1 + j]? with
        | none => rw [hx] at hj; cases hj
        | some z => rw [hx] at hj; injection hj with hj; rw [h5 _ z hx, ← hj]
      obtain ⟨v', w', hr, ho, hgr⟩ := run_append_arg_grows (P := Try.prog) (w := w) 71 71 23 i _ 1 4 Try.underlying71 hi hz0 hz1 hz2 rfl (by decide) ⟨g, 0, none⟩ k k (u32s (xs.take k)) (by simp [u32s]; omega) holds a (xs.length - (k + 1)) (c - (k + 1)) (u32s (xs.drop (k + 1))) (by simp [u32s]) hnews (by omega) (by omega) (by omega)
      have e : u32s (xs.take k) ++ u32s (xs.drop (k + 1)) = u32s (xs.eraseIdx k) := by rw [he]; simp [u32s]
      rw [e, show k + (xs.length - (k + 1)) = xs.length - 1 by omega] at ho
      obtain ⟨x', c', rfl, hL, hkb⟩ := LS.of_owns ho (by rw [List.length_eraseIdx_of_lt hk]) (by omega)
      refine ⟨x', c', w', hr, ?_, ⟨hgr.os, hgr.tape, hgr.output, hgr.size, fun b hb => hgr.block b hb (by simp)⟩, fun j hj => .inr (hL.lt j hj).2⟩
      rcases hL with hL | ⟨g', cur', a1, a2, a3⟩
      · exact .inl hL
      · exact .inr ⟨g', cur', a1, by omega, a3⟩
end Go.Proofs.Ytjgkochbfjlinaa
