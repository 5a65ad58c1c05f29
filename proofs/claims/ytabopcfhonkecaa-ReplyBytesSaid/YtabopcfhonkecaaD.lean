/-
  Contracts of the functions that the statements of package octet go through: new memory that begins with given bytes. Condition: the slice reads as bytes, no more than there is room for.
-/
import Derived.Test.YtabopcfhonkecaaB
import Derived.Test.YtabopcfhonkecaaS
namespace Go.Proofs.Ytabopcfhonkecaa
open Go.RowKit

/-- A row of bytes. -/
def bcells (xs : List Int) : Array Value := (xs.map (Value.int .u8)).toArray

theorem info5 : (Try.prog.info? 5).map (fun i => (i.zero, i.size, i.bytes)) = some (some (.int .u8 0), 1, 1) := by kernel_rfl

theorem made_bytes (n : Nat) : madeCells (Value.int .u8 0).cells n = bcells (List.replicate n 0) := by
  apply Array.ext
  · simp [size_madeCells, bcells]
  · intro i h1 h2
    simp [madeCells, bcells, Value.cells, Nat.mod_one]

theorem mkN (n : Nat) (hn : n ≤ 140737488355328) (w : World) : (Instr.makeSlice 23 (.int .i64 n) (.int .i64 n)).run Try.prog w =
    .ok (.slice (some ⟨w.heap.size, 0, none⟩) n n) (w.alloc (.cells (bcells (List.replicate n 0)) 5)) := by
  obtain ⟨i, hi, hz0, hz1, hz2⟩ := info_parts info5
  have h := run_make (P := Try.prog) w 23 5 i _ Try.underlying23 hi hz0 .i64 .i64 n n (by omega) (by omega) (by rw [hz2]; omega) (by omega)
  rw [h]
  simp only [Int.toNat_natCast, hz1, Nat.mul_one]
  rw [made_bytes]

theorem alloc_setRow (w : World) (o cs : Array Value) : (w.alloc (.cells o 5)).setRow w.heap.size cs = w.alloc (.cells cs 5) := by
  cases w with
  | mk heap tape drawn os output =>
    simp only [World.setRow, World.alloc]
    congr 1
    apply Array.ext
    · simp
    · intro k h1 h2
      simp only [Array.getElem_modify, Array.getElem_push]
      split
      · rename_i hk; subst hk; simp
      · rename_i hk
        have : k < heap.size := by simp at h1; omega
        simp [this]

/-- A new row of bytes reads as they are. -/
theorem sees_alloc (w : World) (ys : List Int) (hb : Byt ys) (n cap : Nat) (hn : n = ys.length) (hc : n ≤ cap) (hm : cap ≤ maxLen) (zs : List Int) :
    Sees (w.alloc (.cells (bcells (ys ++ zs)) 5)) (.slice (some ⟨w.heap.size, 0, none⟩) n cap) ys := by
  subst hn
  refine ⟨hb, ?_⟩
  by_cases h0 : ys = []
  · subst h0
    exact .inr (.inl ⟨_, _, rfl, rfl, hm⟩)
  · refine .inr (.inr ⟨_, _, _, rfl, h0, hc, hm, fun i hi => ?_⟩)
    rw [cell_of_row _ _ _ _ _ _ (heap_alloc_new w _)]
    have e : (bcells (ys ++ zs))[i]? = some (.int .u8 ys[i]) := by
      simp only [bcells, List.getElem?_toArray, List.map_append]
      rw [List.getElem?_append_left (by simpa using hi)]
      simp [hi]
    rw [Nat.zero_add, e]
    simp [nth, List.getD, hi]

theorem Sees.below {w w' : World} {v : Value} {xs : List Int} (h : Sees w v xs) (hb : Below w.heap.size w w') : Sees w' v xs := by
  obtain ⟨h1, h2 | h2 | ⟨b, o, cap, rfl, h3, h4, h5, h6⟩⟩ := h
  · exact ⟨h1, .inl h2⟩
  · exact ⟨h1, .inr (.inl h2)⟩
  · refine ⟨h1, .inr (.inr ⟨b, o, cap, rfl, h3, h4, h5, fun i hi => ?_⟩)⟩
    have := h6 i hi
    rw [hb.cell (World.block_lt_of_cell? w _ this)]
    exact this

theorem Sees.grown {w w' : World} {v : Value} {xs : List Int} {row : Option Nat} (h : Sees w v xs) (hg : w.grownBy w' row) (hne : ∀ k, row = some k → v.ownBlock ≠ some k) : Sees w' v xs := by
  obtain ⟨h1, h2 | h2 | ⟨b, o, cap, rfl, h3, h4, h5, h6⟩⟩ := h
  · exact ⟨h1, .inl h2⟩
  · exact ⟨h1, .inr (.inl h2)⟩
  · refine ⟨h1, .inr (.inr ⟨b, o, cap, rfl, h3, h4, h5, fun i hi => ?_⟩)⟩
    exact hg.cell (h6 i hi) (fun e => hne b e.symm (by simp [Value.ownBlock]))

/-- As a string. -/
theorem Sees.str {w : World} {v : Value} {xs : List Int} (h : Sees w v xs) : (convert 23 9 v).run Try.prog w = .ok (.string (strOfNums xs)) w := by
  obtain ⟨h1, ⟨rfl, rfl⟩ | ⟨a, cap, rfl, rfl, _⟩ | ⟨b, o, cap, rfl, h3, h4, h5, h6⟩⟩ := h
  · exact run_convert_bytes_nil w 23 5 Try.underlying23 Try.underlying5 0 0 9 Try.underlying9
  · rw [run_convert_bytes_string w 23 9 5 _ _ _ Try.underlying23 Try.underlying5 Try.underlying9, run_bytesToString w a 0 cap [] (by simpa using run_loadCells_list (P := Try.prog) w a [] (by simp))]
    rfl
  · exact run_convert_bytes_arg w 23 5 Try.underlying23 Try.underlying5 b o xs.length cap xs rfl h6 9 Try.underlying9

theorem Sees.form {w : World} {v : Value} {xs : List Int} (h : Sees w v xs) : ∃ x cap, v = .slice x xs.length cap ∧ xs.length ≤ 9223372036854775807 := by
  obtain ⟨h1, ⟨rfl, rfl⟩ | ⟨a, cap, rfl, rfl, _⟩ | ⟨b, o, cap, rfl, h3, h4, h5, h6⟩⟩ := h
  · exact ⟨_, _, rfl, by simp⟩
  · exact ⟨_, _, rfl, by simp⟩
  · unfold maxLen at h5
    exact ⟨_, _, rfl, by omega⟩

theorem info5s : (Try.prog.info? 5).map (·.size) = some 1 := by kernel_rfl

/-- copy into a new row of n bytes 0. -/
theorem copy_new {w : World} {v : Value} {xs : List Int} (h : Sees w v xs) (n : Nat) (hn : xs.length ≤ n) :
    (Builtin.copy_ #[23, 23] 3 #[.slice (some ⟨w.heap.size, 0, none⟩) n n, v]).run Try.prog (w.alloc (.cells (bcells (List.replicate n 0)) 5)) =
      .ok (.int .i64 xs.length) (w.alloc (.cells (bcells (xs ++ List.replicate (n - xs.length) 0)) 5)) := by
  have hal : Sees (w.alloc (.cells (bcells (List.replicate n 0)) 5)) v xs := h.below ((Below.refl _ _).alloc (Nat.le_refl _) _)
  have key : ∀ (a : Addr) (cap : Nat), v = .slice (some a) xs.length cap → (∀ i, i < xs.length → (w.alloc (.cells (bcells (List.replicate n 0)) 5)).cell? (a.add i) = some (.int .u8 (nth xs i))) →
      (Builtin.copy_ #[23, 23] 3 #[.slice (some ⟨w.heap.size, 0, none⟩) n n, v]).run Try.prog (w.alloc (.cells (bcells (List.replicate n 0)) 5)) =
      .ok (.int .i64 xs.length) (w.alloc (.cells (bcells (xs ++ List.replicate (n - xs.length) 0)) 5)) := by
    intro a cap hv hc
    subst hv
    rw [run_copy_row Try.prog (w.alloc (.cells (bcells (List.replicate n 0)) 5)) 23 23 3 5 w.heap.size 0 n n a xs.length cap _ 5 (xs.map (Value.int .u8)) Try.underlying23 info5s (heap_alloc_new w _)
      (by simp [Nat.min_eq_left hn]) (fun j u hj => by
        have hjl : j < xs.length := by
          rcases Nat.lt_or_ge j xs.length with h | h
          · exact h
          · simp [List.getElem?_eq_none (show (xs.map (Value.int .u8)).length ≤ j by simpa using h)] at hj
        rw [hc j hjl, ← hj]
        simp [nth, List.getD, hjl]) (by simp [bcells]; exact hn) (by simp [Value.oneCell'])]
    rw [alloc_setRow]
    simp [bcells, goInt]
  obtain ⟨h1, ⟨rfl, rfl⟩ | ⟨a, cap, rfl, rfl, _⟩ | ⟨b, o, cap, rfl, h3, h4, h5, h6⟩⟩ := hal
  · rw [run_copy_nil Try.prog _ 23 23 3 5 _ n n Try.underlying23 (by rw [info5s]; rfl)]
    simp [goInt]
  · exact key a cap rfl (by simp)
  · refine key _ cap rfl fun i hi => ?_
    have hplain : (⟨b, o, none⟩ : Addr).add i = ⟨b, o + i, none⟩ := by unfold Addr.add; split <;> simp_all
    rw [hplain]
    exact h6 i hi

/-- New memory of n bytes that begins with v's. -/
theorem filled (v : Value) (xs : List Int) (n : Nat) (hn : xs.length ≤ n) (h47 : n ≤ 140737488355328) (w : World) (h : Sees w v xs) :
    Calls Try.prog 35 #[v, .int .i64 n] w fun e w' => e = .returned (.slice (some ⟨w.heap.size, 0, none⟩) n n) ∧ w.alloc (.cells (bcells (xs ++ List.replicate (n - xs.length) 0)) 5) = w' := by
  have h1 := mkN n h47 w
  have h2 := copy_new h n hn
  generalize w.alloc (.cells (bcells (List.replicate n 0)) 5) = w1 at h1 h2
  generalize w.alloc (.cells (bcells (xs ++ List.replicate (n - xs.length) 0)) 5) = w2 at h2
  generalize Value.slice (some { block := w.heap.size, off := 0 }) n n = u at h1 h2
  generalize (xs.length : Int) = k at h2
  clear h hn h47
  go_enter Try.func35, Try.ntmps35
  go_wp2
  go_ret
  exact ⟨rfl, rfl⟩

end Go.Proofs.Ytabopcfhonkecaa
