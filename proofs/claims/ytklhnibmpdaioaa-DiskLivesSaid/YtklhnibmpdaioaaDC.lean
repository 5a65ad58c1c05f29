/-
  Contracts: disk.copied, octet.Pad, octet.filled, Full; a new disk. Condition: what is handed in is nil or has a block of its own.
-/
import Derived.Test.YtklhnibmpdaioaaDB
import Derived.Test.YtklhnibmpdaioaaH
namespace Go.Proofs.Ytklhnibmpdaioaa
open Go.RowKit
theorem info5 : (Try.prog.info? 5).map (fun i => (i.zero, i.size, i.bytes)) = some (some (.int .u8 0), 1, 1) := by kernel_rfl
theorem info5s : (Try.prog.info? 5).map (·.size) = some 1 := by kernel_rfl
theorem bcells_rep (n : Nat) : Array.replicate n (Value.int .u8 0) = bcells (List.replicate n 0) := by simp [bcells]
theorem bcells_size (xs : List Nat) : (bcells xs).size = xs.length := by simp [bcells]
theorem make32 (w : World) (n : Nat) (hn : n ≤ 65536) : (Instr.makeSlice 32 (.int .i64 n) (.int .i64 n)).run Try.prog w = .ok (.slice (some ⟨w.heap.size, 0, none⟩) n n) (w.alloc (.cells (bcells (List.replicate n 0)) 5)) := by
  obtain ⟨i, hi, hz0, hz1, hz2⟩ := info_parts info5
  have h := run_make (P := Try.prog) w 32 5 i (.int .u8 0) Try.underlying32 hi hz0 .i64 .i64 n n (by omega) (by omega) (by rw [hz2]; omega) (by omega)
  simp only [Int.toNat_natCast] at h
  rw [h, ← bcells_rep]
  have hm : madeCells (Value.int .u8 0).cells (n * i.size) = Array.replicate n (.int .u8 0) := by
    rw [hz1, Nat.mul_one]
    unfold madeCells
    apply Array.ext
    · simp
    · intro j h1 h2; simp [Value.cells, Nat.mod_one]
  rw [hm]
/-- A text is copied into a new block of as many bytes. -/
theorem copy_text {w : World} {b n : Nat} {xs : List Nat} (hg : w.heap[b]? = some (.cells (bcells xs) 5 (0, 0))) (hs : xs.length = n) (ty : TypeId) :
    (Builtin.copy_ #[32, 32] ty #[.slice (some ⟨w.heap.size, 0, none⟩) n n, .slice (some ⟨b, 0, none⟩) n n]).run Try.prog (w.alloc (.cells (bcells (List.replicate n 0)) 5)) = .ok (.int .i64 n) (w.alloc (.cells (bcells xs) 5)) := by
  have hb : (w.alloc (.cells (bcells (List.replicate n 0)) 5)).heap[b]? = some (.cells (bcells xs) 5 (0, 0)) := by rw [Below.heap_alloc _ _ _ (Array.getElem?_eq_some_iff.1 hg).1]; exact hg
  rw [run_copy_row Try.prog (w.alloc (.cells (bcells (List.replicate n 0)) 5)) 32 32 ty 5 w.heap.size 0 n n ⟨b, 0, none⟩ n n (bcells (List.replicate n 0)) 5 (bcells xs).toList Try.underlying32 info5s (heap_alloc_new w _) (by simp [bcells, hs]) (fun j u hj => by
    rw [addr_add, cell_of_row _ _ _ _ _ _ hb, Nat.zero_add]
    simpa using hj) (by simp [bcells, hs]) (by intro v hv; simp [bcells] at hv; obtain ⟨_, _, rfl⟩ := hv; rfl), alloc_setRow]
  have e : (bcells (List.replicate n 0)).toList.drop (0 + (bcells xs).toList.length) = [] := List.drop_eq_nil_of_le (by simp [bcells, hs])
  rw [e]
  simp [goInt, bcells, hs]
theorem copy_none (w : World) (n : Nat) (ty : TypeId) : (Builtin.copy_ #[32, 32] ty #[.slice (some ⟨w.heap.size, 0, none⟩) n n, .slice none 0 0]).run Try.prog (w.alloc (.cells (bcells (List.replicate n 0)) 5)) = .ok (.int .i64 0) (w.alloc (.cells (bcells (List.replicate n 0)) 5)) := by
  rw [run_copy_nil Try.prog _ 32 32 ty 5 _ n n Try.underlying32 (by rw [info5s]; rfl)]
  simp [goInt]
set_option maxRecDepth 100000 in
theorem copiedD {w : World} {v : Value} {y : Nat} (h : TX w v (tx y)) : Calls Try.prog 65 #[v] w fun e w' => e = .returned (.slice (some ⟨w.heap.size, 0, none⟩) 512 512) ∧ w' = w.alloc (.cells (bcells (tx y)) 5) := by
  obtain ⟨b, rfl, hg⟩ := h
  rw [tx_len]
  have hm : (Instr.makeSlice 32 (.int .i64 512) (.int .i64 512)).run Try.prog w = .ok (.slice (some ⟨w.heap.size, 0, none⟩) 512 512) (w.alloc (.cells (bcells (List.replicate 512 0)) 5)) := make32 w 512 (by omega)
  have hc := fun ty => copy_text hg (tx_len y) ty
  obtain ⟨Z, hZ⟩ : ∃ Z, Z = bcells (List.replicate 512 0) := ⟨_, rfl⟩
  rw [← hZ] at hm
  simp only [← hZ] at hc
  generalize bcells (tx y) = X at *
  clear hg hZ
  go_enter Try.func65, Try.ntmps65
  go_wp2_with fail
  go_ret
  exact ⟨rfl, rfl⟩
/-- Bytes handed out: as they are, or noughts. -/
def padT (o : Option Nat) : List Nat := match o with | some y => tx y | none => tx 0
set_option maxRecDepth 100000 in
theorem filledD {w : World} {v : Value} {o : Option Nat} (h : (o = none ∧ v = .slice none 0 0) ∨ ∃ y, o = some y ∧ TX w v (tx y)) : Calls Try.prog 77 #[v, .int .i64 512] w fun e w' => e = .returned (.slice (some ⟨w.heap.size, 0, none⟩) 512 512) ∧ w' = w.alloc (.cells (bcells (padT o)) 5) := by
  have hm : (Instr.makeSlice 32 (.int .i64 512) (.int .i64 512)).run Try.prog w = .ok (.slice (some ⟨w.heap.size, 0, none⟩) 512 512) (w.alloc (.cells (bcells (List.replicate 512 0)) 5)) := make32 w 512 (by omega)
  rcases h with ⟨rfl, rfl⟩ | ⟨y, rfl, b, rfl, hg⟩
  · have hc := fun ty => copy_none w 512 ty
    have e : padT none = List.replicate 512 0 := rfl
    rw [e]
    generalize bcells (List.replicate 512 0) = Z at *
    clear e
    go_enter Try.func77, Try.ntmps77
    go_wp2_with fail
    go_ret
    exact ⟨rfl, rfl⟩
  · rw [tx_len]
    have hc := fun ty => copy_text hg (tx_len y) ty
    have e : padT (some y) = tx y := rfl
    rw [e]
    obtain ⟨Z, hZ⟩ : ∃ Z, Z = bcells (List.replicate 512 0) := ⟨_, rfl⟩
    rw [← hZ] at hm
    simp only [← hZ] at hc
    generalize bcells (tx y) = X at *
    clear hg hZ e
    go_enter Try.func77, Try.ntmps77
    go_wp2_with fail
    go_ret
    exact ⟨rfl, rfl⟩
set_option maxRecDepth 100000 in
theorem padD {w : World} {v : Value} {o : Option Nat} (h : (o = none ∧ v = .slice none 0 0) ∨ ∃ y, o = some y ∧ TX w v (tx y)) : Calls Try.prog 58 #[v, .int .i64 512] w fun e w' => e = .returned (.tuple #[.slice (some ⟨w.heap.size, 0, none⟩) 512 512, .int .i64 0]) ∧ w' = w.alloc (.cells (bcells (padT o)) 5) := by
  have F := Lib.hid (filledD h)
  obtain ⟨x, n, k, rfl, hn⟩ : ∃ x n k, v = .slice x n k ∧ n ≤ 512 := by
    rcases h with ⟨_, rfl⟩ | ⟨y, _, b, rfl, _⟩
    · exact ⟨_, _, _, rfl, by omega⟩
    · exact ⟨_, _, _, rfl, by rw [tx_len]; omega⟩
  clear h
  have h2 : ¬ (512 : Int) < (n : Int) := by omega
  go_enter Try.func58, Try.ntmps58
  go_wp2_with (go_at_call 77; refine F.out.mono ?_; rintro e w' ⟨rfl, rfl⟩)
  go_ret2
  exact ⟨rfl, rfl⟩
end Go.Proofs.Ytklhnibmpdaioaa
