/-
  Contracts: Full; disk.New. Condition: none.
-/
import Derived.Test.YtjdamlmoegippaaDoorDkDB
import Derived.Test.YtjdamlmoegippaaDoorDkDR
namespace Go.Proofs.YtjdamlmoegippaaDoor.dk
open Go.RowKit
theorem info5 : (Tryd.prog.info? 5).map (fun i => (i.zero, i.size, i.bytes)) = some (some (.int .u8 0), 1, 1) := by kernel_rfl
theorem info5s : (Tryd.prog.info? 5).map (·.size) = some 1 := by kernel_rfl
theorem bcells_rep (n : Nat) : Array.replicate n (Value.int .u8 0) = bcells (List.replicate n 0) := by simp [bcells]
theorem bcells_size (xs : List Nat) : (bcells xs).size = xs.length := by simp [bcells]
theorem make32 (w : World) (n : Nat) (hn : n ≤ 65536) : (Instr.makeSlice 37 (.int .i64 n) (.int .i64 n)).run Tryd.prog w = .ok (.slice (some ⟨w.heap.size, 0, none⟩) n n) (w.alloc (.cells (bcells (List.replicate n 0)) 5)) := by
  obtain ⟨i, hi, hz0, hz1, hz2⟩ := info_parts info5
  have h := run_make (P := Tryd.prog) w 37 5 i (.int .u8 0) Tryd.underlying37 hi hz0 .i64 .i64 n n (by omega) (by omega) (by rw [hz2]; omega) (by omega)
  simp only [Int.toNat_natCast] at h
  rw [h, ← bcells_rep]
  have hm : madeCells (Value.int .u8 0).cells (n * i.size) = Array.replicate n (.int .u8 0) := by
    rw [hz1, Nat.mul_one]
    unfold madeCells
    apply Array.ext
    · simp
    · intro j h1 h2; simp [Value.cells, Nat.mod_one]
  rw [hm]
/-- A text is copied into a new block of as many bytes. -/
theorem copy_text {w : World} {b n : Nat} {xs : List Nat} (hg : w.heap[b]? = some (.cells (bcells xs) 5 (0, 0))) (hs : xs.length = n) (ty : TypeId) :
    (Builtin.copy_ #[37, 37] ty #[.slice (some ⟨w.heap.size, 0, none⟩) n n, .slice (some ⟨b, 0, none⟩) n n]).run Tryd.prog (w.alloc (.cells (bcells (List.replicate n 0)) 5)) = .ok (.int .i64 n) (w.alloc (.cells (bcells xs) 5)) := by
  have hb : (w.alloc (.cells (bcells (List.replicate n 0)) 5)).heap[b]? = some (.cells (bcells xs) 5 (0, 0)) := by rw [Below.heap_alloc _ _ _ (Array.getElem?_eq_some_iff.1 hg).1]; exact hg
  rw [run_copy_row Tryd.prog (w.alloc (.cells (bcells (List.replicate n 0)) 5)) 37 37 ty 5 w.heap.size 0 n n ⟨b, 0, none⟩ n n (bcells (List.replicate n 0)) 5 (bcells xs).toList Tryd.underlying37 info5s (heap_alloc_new w _) (by simp [bcells, hs]) (fun j u hj => by
    rw [addr_add, cell_of_row _ _ _ _ _ _ hb, Nat.zero_add]
    simpa using hj) (by simp [bcells, hs]) (by intro v hv; simp [bcells] at hv; obtain ⟨_, _, rfl⟩ := hv; rfl), alloc_setRow]
  have e : (bcells (List.replicate n 0)).toList.drop (0 + (bcells xs).toList.length) = [] := List.drop_eq_nil_of_le (by simp [bcells, hs])
  rw [e]
  simp [goInt, bcells, hs]
theorem copy_none (w : World) (n : Nat) (ty : TypeId) : (Builtin.copy_ #[37, 37] ty #[.slice (some ⟨w.heap.size, 0, none⟩) n n, .slice none 0 0]).run Tryd.prog (w.alloc (.cells (bcells (List.replicate n 0)) 5)) = .ok (.int .i64 0) (w.alloc (.cells (bcells (List.replicate n 0)) 5)) := by
  rw [run_copy_nil Tryd.prog _ 37 37 ty 5 _ n n Tryd.underlying37 (by rw [info5s]; rfl)]
  simp [goInt]
set_option maxRecDepth 100000 in
theorem copiedD {w : World} {v : Value} {y : Nat} (h : TX w v (tx y)) : Calls Tryd.prog 40 #[v] w fun e w' => e = .returned (.slice (some ⟨w.heap.size, 0, none⟩) 512 512) ∧ w' = w.alloc (.cells (bcells (tx y)) 5) := by
  obtain ⟨b, rfl, hg⟩ := h
  rw [tx_len]
  have hm : (Instr.makeSlice 37 (.int .i64 512) (.int .i64 512)).run Tryd.prog w = .ok (.slice (some ⟨w.heap.size, 0, none⟩) 512 512) (w.alloc (.cells (bcells (List.replicate 512 0)) 5)) := make32 w 512 (by omega)
  have hc := fun ty => copy_text hg (tx_len y) ty
  obtain ⟨Z, hZ⟩ : ∃ Z, Z = bcells (List.replicate 512 0) := ⟨_, rfl⟩
  rw [← hZ] at hm
  simp only [← hZ] at hc
  generalize bcells (tx y) = X at *
  clear hg hZ
  go_enter Tryd.func40, Tryd.ntmps40
  go_wp2_with fail
  go_ret
  exact ⟨rfl, rfl⟩
/-- Bytes handed out: as they are, or noughts. -/
def padT (o : Option Nat) : List Nat := match o with | some y => tx y | none => tx 0
set_option maxRecDepth 100000 in
theorem filledD {w : World} {v : Value} {o : Option Nat} (h : (o = none ∧ v = .slice none 0 0) ∨ ∃ y, o = some y ∧ TX w v (tx y)) : Calls Tryd.prog 61 #[v, .int .i64 512] w fun e w' => e = .returned (.slice (some ⟨w.heap.size, 0, none⟩) 512 512) ∧ w' = w.alloc (.cells (bcells (padT o)) 5) := by
  have hm : (Instr.makeSlice 37 (.int .i64 512) (.int .i64 512)).run Tryd.prog w = .ok (.slice (some ⟨w.heap.size, 0, none⟩) 512 512) (w.alloc (.cells (bcells (List.replicate 512 0)) 5)) := make32 w 512 (by omega)
  rcases h with ⟨rfl, rfl⟩ | ⟨y, rfl, b, rfl, hg⟩
  · have hc := fun ty => copy_none w 512 ty
    have e : padT none = List.replicate 512 0 := rfl
    rw [e]
    generalize bcells (List.replicate 512 0) = Z at *
    clear e
    go_enter Tryd.func61, Tryd.ntmps61
    go_wp2_with fail
    go_ret
    exact ⟨rfl, rfl⟩
  · rw [tx_len]
    have hc := fun ty => copy_text hg (tx_len y) ty
    have e : padT (some y) = tx y := rfl
    rw [e]
    obtain ⟨Z, hZ⟩ : ∃ Z, Z = bcells (List.replicate 512 0) := ⟨_, rfl⟩
    rw [← hZ] at hm
    simp only [← hZ] at hc
    generalize bcells (tx y) = X at *
    clear hg hZ e
    go_enter Tryd.func61, Tryd.ntmps61
    go_wp2_with fail
    go_ret
    exact ⟨rfl, rfl⟩
set_option maxRecDepth 100000 in
theorem padD {w : World} {v : Value} {o : Option Nat} (h : (o = none ∧ v = .slice none 0 0) ∨ ∃ y, o = some y ∧ TX w v (tx y)) : Calls Tryd.prog 50 #[v, .int .i64 512] w fun e w' => e = .returned (.tuple #[.slice (some ⟨w.heap.size, 0, none⟩) 512 512, .int .i64 0]) ∧ w' = w.alloc (.cells (bcells (padT o)) 5) := by
  have F := Lib.hid (filledD h)
  obtain ⟨x, n, k, rfl, hn⟩ : ∃ x n k, v = .slice x n k ∧ n ≤ 512 := by
    rcases h with ⟨_, rfl⟩ | ⟨y, _, b, rfl, _⟩
    · exact ⟨_, _, _, rfl, by omega⟩
    · exact ⟨_, _, _, rfl, by rw [tx_len]; omega⟩
  clear h
  have h2 : ¬ (512 : Int) < (n : Int) := by omega
  go_enter Tryd.func50, Tryd.ntmps50
  go_wp2_with (go_at_call 61; refine F.out.mono ?_; rintro e w' ⟨rfl, rfl⟩)
  go_ret2
  exact ⟨rfl, rfl⟩
end Go.Proofs.YtjdamlmoegippaaDoor.dk
namespace Go.Proofs.YtjdamlmoegippaaDoor.dk
open Go.RowKit
/-- A text of one byte in a new block. -/
def FullP (w : World) (y n : Nat) (e : Ending) (w' : World) : Prop :=
  ∃ b, e = .returned (.slice (some ⟨b, 0, none⟩) n n) ∧ w'.heap[b]? = some (.cells (bcells (List.replicate n y)) 5 (0, 0)) ∧ w.heap.size ≤ b ∧ Below w.heap.size w w'
theorem bcells_set (y n i : Nat) (h : i < n) : (bcells (List.replicate i y ++ List.replicate (n - i) 0)).setIfInBounds i (.int .u8 (y : Int)) = bcells (List.replicate (i + 1) y ++ List.replicate (n - (i + 1)) 0) := by
  unfold bcells
  rw [List.setIfInBounds_toArray]
  congr 1
  rw [List.map_append, List.set_append_right _ _ (by simp), show n - i = (n - (i + 1)) + 1 by omega, List.replicate_succ]
  simp [List.replicate_succ', List.append_assoc]
set_option maxRecDepth 100000 in
set_option maxHeartbeats 1000000 in
theorem fullAny (y : Nat) (n : Int) (k : Nat) (hk : (0 < n ∧ n < 600 ∧ n = k) ∨ (¬ (0 < n ∧ n < 600) ∧ k = 512)) (w : World) : Calls Tryd.prog 8 #[.int .u8 y, .int .i64 n] w (FullP w y k) := by
  have hk6 : k ≤ 600 := by omega
  have hm := make32 w k (by omega)
  obtain ⟨b, hb⟩ : ∃ b, b = w.heap.size := ⟨_, rfl⟩
  obtain ⟨w1, hw1⟩ : ∃ w1, w1 = w.alloc (.cells (bcells (List.replicate k 0)) 5) := ⟨_, rfl⟩
  have B1 : Hid (Below w.heap.size w w1) := by show Below _ _ _; rw [hw1]; exact (Below.refl _ _).alloc (Nat.le_refl _) _
  have R1 : Hid (w1.heap[b]? = some (.cells (bcells (List.replicate k 0)) 5 (0, 0))) := by show _ = _; rw [hw1, hb]; exact heap_alloc_new _ _
  have HB : Hid (w.heap.size ≤ b) := by show _ ≤ _; omega
  rw [← hb, ← hw1] at hm
  clear hb hw1
  rcases hk with ⟨h1, h2, rfl⟩ | ⟨h1, rfl⟩
  · go_enter Tryd.func8, Tryd.ntmps8
    go_wp2_with fail
    go_loopg [7] k (fun r vi wr => ∃ i : Nat, r + i = k ∧ vi = .int .i64 i ∧ wr.heap[b]? = some (.cells (bcells (List.replicate i y ++ List.replicate (k - i) 0)) 5 (0, 0)) ∧ Below w.heap.size w wr)
    case atStart => exact ⟨0, rfl, rfl, by simpa using R1.out, B1.out⟩
    case round =>
      obtain ⟨i, hr, rfl, hc, hbl⟩ := hrel
      have HC := Lib.hid hc
      have HL := Lib.hid hbl
      have HR := Lib.hid hr
      by_cases hi : i < k
      · obtain ⟨u, hu⟩ : ∃ u, wr.cell? ⟨b, i, none⟩ = some u := ⟨_, by rw [cell_of_row _ _ _ _ _ _ hc]; exact Array.getElem?_eq_getElem (by rw [bcells_size]; simp; omega)⟩
        have hf : wr.frozen? ⟨b, i, none⟩ = false := by simp [World.frozen?, hc]
        have hnew : (wr.setCell ⟨b, i, none⟩ (.int .u8 (y : Int))).heap[b]? = some (.cells (bcells (List.replicate (i + 1) y ++ List.replicate (k - (i + 1)) 0)) 5 (0, 0)) := by
          rw [← bcells_set y k i hi]; simp [World.setCell, Array.getElem?_modify, hc]
        have HN := Lib.hid hnew
        have HBL : Hid (Below w.heap.size w (wr.setCell ⟨b, i, none⟩ (.int .u8 (y : Int)))) := hbl.setCell (by simpa using HB.out) _
        clear hc hbl hr hnew
        go_wp2_with fail
        go_roundg (k - (i + 1))
        case measure => have := HR.out; omega
        case rel => exact ⟨i + 1, by omega, by go_num, HN.out, HBL.out⟩
      · have HI : Hid (i = k) := by show _ = _; omega
        clear hc hbl hr
        go_wp2_with fail
        go_ret
        refine ⟨b, rfl, ?_, HB.out, HL.out⟩
        have := HC.out
        rw [HI.out, Nat.sub_self] at this
        simpa using this
  · have hm5 : (Instr.makeSlice 37 (.int .i64 512) (.int .i64 512)).run Tryd.prog w = .ok (.slice (some ⟨b, 0, none⟩) 512 512) w1 := hm
    clear hm
    by_cases h0 : 0 < n
    case' pos => have h2 : ¬ n < 600 := by omega
    all_goals
      clear h1
      go_enter Tryd.func8, Tryd.ntmps8
      go_wp2_with fail
      go_loopg [7] 512 (fun r vi wr => ∃ i : Nat, r + i = 512 ∧ vi = .int .i64 i ∧ wr.heap[b]? = some (.cells (bcells (List.replicate i y ++ List.replicate (512 - i) 0)) 5 (0, 0)) ∧ Below w.heap.size w wr)
      case atStart => exact ⟨0, rfl, rfl, R1.out, B1.out⟩
      case round =>
        obtain ⟨i, hr, rfl, hc, hbl⟩ := hrel
        have HC := Lib.hid hc
        have HL := Lib.hid hbl
        have HR := Lib.hid hr
        by_cases hi : i < 512
        · obtain ⟨u, hu⟩ : ∃ u, wr.cell? ⟨b, i, none⟩ = some u := ⟨_, by rw [cell_of_row _ _ _ _ _ _ hc]; exact Array.getElem?_eq_getElem (by rw [bcells_size]; simp; omega)⟩
          have hf : wr.frozen? ⟨b, i, none⟩ = false := by simp [World.frozen?, hc]
          have hnew : (wr.setCell ⟨b, i, none⟩ (.int .u8 (y : Int))).heap[b]? = some (.cells (bcells (List.replicate (i + 1) y ++ List.replicate (512 - (i + 1)) 0)) 5 (0, 0)) := by
            rw [← bcells_set y 512 i hi]; simp [World.setCell, Array.getElem?_modify, hc]
          have HN := Lib.hid hnew
          have HBL : Hid (Below w.heap.size w (wr.setCell ⟨b, i, none⟩ (.int .u8 (y : Int)))) := hbl.setCell (by simpa using HB.out) _
          have hi2 : (i : Int) < 512 := by omega
          clear hc hbl hr hnew
          go_wp2_with fail
          go_roundg (512 - (i + 1))
          case measure => have := HR.out; omega
          case rel => exact ⟨i + 1, by omega, by go_num, HN.out, HBL.out⟩
        · have HI : Hid (i = 512) := by show _ = _; omega
          have hi2 : ¬ (i : Int) < 512 := by omega
          clear hc hbl hr
          go_wp2_with fail
          go_ret
          refine ⟨b, rfl, ?_, HB.out, HL.out⟩
          have := HC.out
          rw [HI.out, Nat.sub_self, List.replicate_zero, List.append_nil] at this
          exact this
/-- A new disk. -/
def NewDP (w : World) (N : Nat) (e : Ending) (w' : World) : Prop :=
  ∃ g sb hb, e = .returned (.tuple #[.pointer (some ⟨g, 0, none⟩), .int .i64 0]) ∧ DK w' g N sb hb (.slice none 0 0) (fun _ => none) [] (List.replicate 64 (.int .u8 0)) 0 (-1) false 0 ∧ w.heap.size ≤ g ∧ w.heap.size ≤ sb ∧ w.heap.size ≤ hb ∧ Below w.heap.size w w'
theorem newD_rows (w : World) (N : Nat) (h1 : 1 ≤ N) (h2 : N ≤ 65536) :
    DK (((w.alloc (.map #[] 0)).alloc (.map #[] 0)).alloc (.cells (dcells N w.heap.size (w.heap.size + 1) (.slice none 0 0) (List.replicate 64 (.int .u8 0)) 0 (-1) false) 94)) (w.heap.size + 2) N w.heap.size (w.heap.size + 1) (.slice none 0 0) (fun _ => none) [] (List.replicate 64 (.int .u8 0)) 0 (-1) false 0 := by
  obtain ⟨t1, t2, t3⟩ := three_allocs w (.map #[] 0) (.map #[] 0) (.cells (dcells N w.heap.size (w.heap.size + 1) (.slice none 0 0) (List.replicate 64 (.int .u8 0)) 0 (-1) false) 94)
  refine ⟨h1, h2, t3, by simp, ⟨0, fun _ => none, (MapV.made w Tryd.prog 22).copy (t1.trans (heap_alloc_new w _).symm), by simp, fun s => .inl ⟨rfl, rfl⟩⟩, ⟨0, fun _ => none, (MapV.made w Tryd.prog 22).copy (t2.trans (heap_alloc_new w _).symm), by omega, fun s => .inl ⟨rfl, rfl⟩⟩, ⟨[], ⟨rfl, by simp, .inl ⟨rfl, rfl⟩⟩, rfl⟩, by omega, by simp⟩
set_option maxRecDepth 100000 in
set_option maxHeartbeats 400000 in
theorem newD (N : Nat) (h1 : 1 ≤ N) (h2 : N ≤ 65536) (w : World) : Calls Tryd.prog 29 #[.int .i64 N] w (NewDP w N) := by
  have hD := newD_rows w N h1 h2
  have HD := Lib.hid hD
  have hmm := @run_makeMap Tryd.prog
  clear hD
  go_enter Tryd.func29, Tryd.ntmps29
  go_wp2_with fail
  go_ret2
  exact ⟨_, _, _, rfl, HD.out, by omega, by omega, by omega, (((Below.refl _ _).alloc (Nat.le_refl _) _).alloc (by simp) _).alloc (by simp; omega) _⟩
end Go.Proofs.YtjdamlmoegippaaDoor.dk
