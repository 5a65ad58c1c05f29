/-
  Contracts: disk.copied, octet.Pad, octet.filled, Full; a new disk. Condition: what is handed in is nil or has a block of its own.
-/
import Derived.Test.YtjdamlmoegippaaDoorDkDA
import Derived.Test.YtjdamlmoegippaaDoorDkDR
namespace Go.Proofs.YtjdamlmoegippaaDoor.dk
open Go.RowKit
section
variable {w w' : World} {g N sb hb : Nat} {wv : Value} {su : Nat → Option Nat} {ws : List (Nat × Nat)} {rg : List Value} {c p : Int} {d : Bool} {K : Nat}
theorem sizeD (h : DK w g N sb hb wv su ws rg c p d K) : Calls Tryd.prog 26 #[.pointer (some ⟨g, 0, none⟩)] w fun e w' => e = .returned (.int .i64 N) ∧ w = w' := by
  have c0 := h.c0
  clear h
  go_enter Tryd.func26, Tryd.ntmps26
  go_wp2
  go_ret
  exact ⟨rfl, rfl⟩
theorem awakeD (h : DK w g N sb hb wv su ws rg c p d K) : Calls Tryd.prog 44 #[.pointer (some ⟨g, 0, none⟩)] w fun e w' => e = .returned (.int .i64 (if d then 30 else 0)) ∧ w = w' := by
  have H := Lib.hid h
  have c70 := h.c70
  have n1 := h.n1
  have hz : ((N : Int) == 0) = false := by simp; omega
  clear h
  cases d
  · go_enter Tryd.func44, Tryd.ntmps44
    go_wp2_with (go_at_call 26; refine (sizeD H.out).mono ?_; rintro e w' ⟨rfl, rfl⟩)
    go_ret
    exact ⟨rfl, rfl⟩
  · go_enter Tryd.func44, Tryd.ntmps44
    go_wp2_with (go_at_call 26; refine (sizeD H.out).mono ?_; rintro e w' ⟨rfl, rfl⟩)
    go_ret
    exact ⟨rfl, rfl⟩
theorem hasD (h : DK w g N sb hb wv su ws rg c p d K) (s : Nat) : Calls Tryd.prog 37 #[.pointer (some ⟨g, 0, none⟩), .int .u32 s] w fun e w' => e = .returned (.int .i64 (if s < N then 0 else 31)) ∧ w = w' := by
  have H := Lib.hid h
  have c0 := h.c0
  have n1 := h.n1
  have n2 := h.n2
  have hz : ((N : Int) == 0) = false := by simp; omega
  clear h
  by_cases hlt : s < N
  · rw [if_pos hlt]
    have h2 : ¬ (N : Int) ≤ (s : Int) := by omega
    go_enter Tryd.func37, Tryd.ntmps37
    go_wp2_with (go_at_call 26; refine (sizeD H.out).mono ?_; rintro e w' ⟨rfl, rfl⟩)
    go_ret
    exact ⟨rfl, rfl⟩
  · rw [if_neg hlt]
    have h2 : (N : Int) ≤ (s : Int) := by omega
    go_enter Tryd.func37, Tryd.ntmps37
    go_wp2_with (go_at_call 26; refine (sizeD H.out).mono ?_; rintro e w' ⟨rfl, rfl⟩)
    go_ret
    exact ⟨rfl, rfl⟩
theorem fitsD (x : Option Addr) (n k : Nat) (hn : n ≤ 9223372036854775807) (w : World) : Calls Tryd.prog 38 #[.slice x n k] w fun e w' => e = .returned (.int .i64 (if n = 512 then 0 else 3)) ∧ w = w' := by
  by_cases h : n = 512
  · subst h
    go_enter Tryd.func38, Tryd.ntmps38
    go_wp2_with fail
    go_ret
    exact ⟨rfl, rfl⟩
  · rw [if_neg h]
    have h1 : ((n : Int) == 512) = false := by simp; omega
    have h2 : ((n : Int) != 512) = true := by simp; omega
    go_enter Tryd.func38, Tryd.ntmps38
    go_wp2_with fail
    go_ret
    exact ⟨rfl, rfl⟩
/-- The first of errors that is one. -/
def orE : List Int → Int
  | [] => 0
  | x :: r => if x = 0 then orE r else x
theorem orD (b : Nat) (xs : List Int) (hl : xs.length ≤ 10) (w : World) (hx : ∀ k z, xs[k]? = some z → w.cell? ⟨b, k, none⟩ = some (.int .i64 z)) :
    Calls Tryd.prog 36 #[.slice (some ⟨b, 0, none⟩) xs.length xs.length] w fun e w' => e = .returned (.int .i64 (orE xs)) ∧ w = w' := by
  have X := Lib.hid hx
  clear hx
  go_enter Tryd.func36, Tryd.ntmps36
  go_wp2_with fail
  go_loopg [5, 8] xs.length (fun r _ vi wr => ∃ i : Nat, r + i = xs.length ∧ vi = .int .i64 i ∧ orE (xs.drop i) = orE xs ∧ w = wr)
  case atStart => exact ⟨0, rfl, rfl, rfl, rfl⟩
  case round =>
    obtain ⟨i, hr, rfl, ho, rfl⟩ := hrel
    have HO := Lib.hid ho
    have HR := Lib.hid hr
    clear ho hr
    by_cases hi : i < xs.length
    · have hz : xs[i]? = some (xs[i]'hi) := List.getElem?_eq_getElem hi
      have hd := List.drop_eq_getElem_cons hi
      generalize xs[i]'hi = z at hz hd
      have hc := X.out i z hz
      have HD := Lib.hid hd
      clear hz hd
      by_cases h0 : z = 0
      · subst h0
        go_wp2_with fail
        go_roundg (xs.length - (i + 1))
        case measure => have := HR.out; omega
        case rel => exact ⟨i + 1, by omega, by go_num, by rw [← HO.out, HD.out]; rfl, rfl⟩
      · have h1 : (z == 0) = false := by simp [h0]
        have h2 : (z != 0) = true := by simp [h0]
        have HZ : Hid (orE xs = z) := by show _ = _; rw [← HO.out, HD.out]; unfold orE; rw [if_neg h0]
        clear h0
        go_wp2_with fail
        go_ret
        exact ⟨by rw [HZ.out]; rfl, rfl⟩
    · have HZ : Hid (orE xs = 0) := by show _ = _; rw [← HO.out, List.drop_of_length_le (by omega)]; rfl
      go_wp2_with fail
      go_ret
      exact ⟨by rw [HZ.out]; rfl, rfl⟩
/-- A disk of which the plan was asked. -/
def MayP (w : World) (g N sb hb : Nat) (wv : Value) (su : Nat → Option Nat) (ws : List (Nat × Nat)) (rg : List Value) (c p : Int) (d : Bool) (K : Nat) (ok : Bool) (e : Ending) (w' : World) : Prop :=
  e = .returned (.bool ok) ∧ DK w' g N sb hb wv su ws rg c p d K ∧ Mods (fun k => k = g) w w'
set_option maxRecDepth 100000 in
theorem mayD_free (h : DK w g N sb hb wv su ws rg c (-1) d K) (hc : 0 ≤ c) (hc2 : c ≤ 1000000) : Calls Tryd.prog 45 #[.pointer (some ⟨g, 0, none⟩)] w (MayP w g N sb hb wv su ws rg (c + 1) (-1) d K true) := by
  have c69 := h.c69
  have c68 := h.c68
  have f68 := h.fz 68
  have hm : Mods (fun k => k = g) w (w.setCell ⟨g, 68, none⟩ (.int .i64 (c + 1))) := Mods.set (S := fun k => k = g) w ⟨g, 68, none⟩ _ rfl
  have hD := h.reset (by rw [row_set h.row, dset_68 h.len]) hm
  have HD := Lib.hid hD
  have HM := Lib.hid hm
  clear h hm hD
  go_enter Tryd.func45, Tryd.ntmps45
  go_wp2_with fail
  go_ret
  exact ⟨rfl, HD.out, HM.out⟩
set_option maxRecDepth 100000 in
theorem mayD_plan (h : DK w g N sb hb wv su ws rg c p d K) (hc : 0 ≤ c) (hc2 : c ≤ 1000000) (hp : 1 ≤ p) (hp2 : p ≤ 9223372036854775807) : Calls Tryd.prog 45 #[.pointer (some ⟨g, 0, none⟩)] w (MayP w g N sb hb wv su ws rg (c + 1) (p - 1) d K true) := by
  have c69 := h.c69
  have c68 := h.c68
  have f68 := h.fz 68
  have f69 := h.fz 69
  have hm1 : Mods (fun k => k = g) w (w.setCell ⟨g, 69, none⟩ (.int .i64 (p - 1))) := Mods.set (S := fun k => k = g) w ⟨g, 69, none⟩ _ rfl
  have hD1 := h.reset (by rw [row_set h.row, dset_69 h.len]) hm1
  have hm2 : Mods (fun k => k = g) (w.setCell ⟨g, 69, none⟩ (.int .i64 (p - 1))) ((w.setCell ⟨g, 69, none⟩ (.int .i64 (p - 1))).setCell ⟨g, 68, none⟩ (.int .i64 (c + 1))) := Mods.set (S := fun k => k = g) _ ⟨g, 68, none⟩ _ rfl
  have hD := hD1.reset (by rw [row_set hD1.row, dset_68 hD1.len]) hm2
  have HD := Lib.hid hD
  have HM := Lib.hid (hm1.trans hm2 (fun b hb => .inl hb))
  have h0 : (p == 0) = false := by simp; omega
  have h1 : (p == -1) = false := by simp; omega
  have h2 : (p != -1) = true := by simp; omega
  have e68 := hD1.c68
  have g68 := hD1.fz 68
  clear h hm1 hm2 hD hD1
  go_enter Tryd.func45, Tryd.ntmps45
  go_wp2_with fail
  go_ret
  exact ⟨rfl, HD.out, HM.out⟩
end
end Go.Proofs.YtjdamlmoegippaaDoor.dk
namespace Go.Proofs.YtjdamlmoegippaaDoor.dk
open Go.RowKit
theorem info5 : (Tryd.prog.info? 5).map (fun i => (i.zero, i.size, i.bytes)) = some (some (.int .u8 0), 1, 1) := by kernel_rfl
theorem info5s : (Tryd.prog.info? 5).map (·.size) = some 1 := by kernel_rfl
theorem bcells_rep (n : Nat) : Array.replicate n (Value.int .u8 0) = bcells (List.replicate n 0) := by simp [bcells]
theorem bcells_size (xs : List Nat) : (bcells xs).size = xs.length := by simp [bcells]
theorem make32 (w : World) (n : Nat) (hn : n ≤ 65536) : (Instr.makeSlice 37 (.int .i64 n) (.int .i64 n)).run Tryd.prog w = .ok (.slice (some ⟨w.heap.size, 0, none⟩) n n) (w.alloc (.cells (bcells (List.replicate n 0)) 5)) := by
  obtain ⟨i, hi, hz0, hz1, hz2⟩ := info_parts info5
  have h := run_make (P := Tryd.prog) w 37 5 i (.int .u8 0) Tryd.underlying37 hi hz0 .i64 .i64 n n (by omega) (by omega) (by rw [hz2]; omega) (by omega)
  simp only [Int.toNat_natCast] at h
  rw [h, ← bcells_rep]
  have hm : madeCells (Value.int .u8 0).cells (n * i.size) = Array.replicate n (.int .u8 0) := by
    rw [hz1, Nat.mul_one]
    unfold madeCells
    apply Array.ext
    · simp
    · intro j h1 h2; simp [Value.cells, Nat.mod_one]
  rw [hm]
/-- A text is copied into a new block of as many bytes. -/
theorem copy_text {w : World} {b n : Nat} {xs : List Nat} (hg : w.heap[b]? = some (.cells (bcells xs) 5 (0, 0))) (hs : xs.length = n) (ty : TypeId) :
    (Builtin.copy_ #[37, 37] ty #[.slice (some ⟨w.heap.size, 0, none⟩) n n, .slice (some ⟨b, 0, none⟩) n n]).run Tryd.prog (w.alloc (.cells (bcells (List.replicate n 0)) 5)) = .ok (.int .i64 n) (w.alloc (.cells (bcells xs) 5)) := by
  have hb : (w.alloc (.cells (bcells (List.replicate n 0)) 5)).heap[b]? = some (.cells (bcells xs) 5 (0, 0)) := by rw [Below.heap_alloc _ _ _ (Array.getElem?_eq_some_iff.1 hg).1]; exact hg
  rw [run_copy_row Tryd.prog (w.alloc (.cells (bcells (List.replicate n 0)) 5)) 37 37 ty 5 w.heap.size 0 n n ⟨b, 0, none⟩ n n (bcells (List.replicate n 0)) 5 (bcells xs).toList Tryd.underlying37 info5s (heap_alloc_new w _) (by simp [bcells, hs]) (fun j u hj => by
    rw [addr_add, cell_of_row _ _ _ _ _ _ hb, Nat.zero_add]
    simpa using hj) (by simp [bcells, hs]) (by intro v hv; simp [bcells] at hv; obtain ⟨_, _, rfl⟩ := hv; rfl), alloc_setRow]
  have e : (bcells (List.replicate n 0)).toList.drop (0 + (bcells xs).toList.length) = [] := List.drop_eq_nil_of_le (by simp [bcells, hs])
  rw [e]
  simp [goInt, bcells, hs]
theorem copy_none (w : World) (n : Nat) (ty : TypeId) : (Builtin.copy_ #[37, 37] ty #[.slice (some ⟨w.heap.size, 0, none⟩) n n, .slice none 0 0]).run Tryd.prog (w.alloc (.cells (bcells (List.replicate n 0)) 5)) = .ok (.int .i64 0) (w.alloc (.cells (bcells (List.replicate n 0)) 5)) := by
  rw [run_copy_nil Tryd.prog _ 37 37 ty 5 _ n n Tryd.underlying37 (by rw [info5s]; rfl)]
  simp [goInt]
set_option maxRecDepth 100000 in
theorem copiedD {w : World} {v : Value} {y : Nat} (h : TX w v (tx y)) : Calls Tryd.prog 40 #[v] w fun e w' => e = .returned (.slice (some ⟨w.heap.size, 0, none⟩) 512 512) ∧ w' = w.alloc (.cells (bcells (tx y)) 5) := by
  obtain ⟨b, rfl, hg⟩ := h
  rw [tx_len]
  have hm : (Instr.makeSlice 37 (.int .i64 512) (.int .i64 512)).run Tryd.prog w = .ok (.slice (some ⟨w.heap.size, 0, none⟩) 512 512) (w.alloc (.cells (bcells (List.replicate 512 0)) 5)) := make32 w 512 (by omega)
  have hc := fun ty => copy_text hg (tx_len y) ty
  obtain ⟨Z, hZ⟩ : ∃ Z, Z = bcells (List.replicate 512 0) := ⟨_, rfl⟩
  rw [← hZ] at hm
  simp only [← hZ] at hc
  generalize bcells (tx y) = X at *
  clear hg hZ
  go_enter Tryd.func40, Tryd.ntmps40
  go_wp2_with fail
  go_ret
  exact ⟨rfl, rfl⟩
theorem copy_sx {w : World} {b o cp n : Nat} {cs : Array Value} {xs : List Nat} (hg : w.heap[b]? = some (.cells cs 5 (0, 0))) (hs : xs.length = n) (hcs : ∀ (i : Nat) (x : Nat), xs[i]? = some x → cs[o + i]? = some (Value.int .u8 (x : Int))) (ty : TypeId) :
    (Builtin.copy_ #[37, 37] ty #[.slice (some ⟨w.heap.size, 0, none⟩) n n, .slice (some ⟨b, o, none⟩) n cp]).run Tryd.prog (w.alloc (.cells (bcells (List.replicate n 0)) 5)) = .ok (.int .i64 n) (w.alloc (.cells (bcells xs) 5)) := by
  have hb : (w.alloc (.cells (bcells (List.replicate n 0)) 5)).heap[b]? = some (.cells cs 5 (0, 0)) := by rw [Below.heap_alloc _ _ _ (Array.getElem?_eq_some_iff.1 hg).1]; exact hg
  rw [run_copy_row Tryd.prog (w.alloc (.cells (bcells (List.replicate n 0)) 5)) 37 37 ty 5 w.heap.size 0 n n ⟨b, o, none⟩ n cp (bcells (List.replicate n 0)) 5 (bcells xs).toList Tryd.underlying37 info5s (heap_alloc_new w _) (by simp [bcells, hs]) (fun j u hj => by
    rw [addr_add, cell_of_row _ _ _ _ _ _ hb]
    unfold bcells at hj
    rw [List.toList_toArray, List.getElem?_map] at hj
    cases hx : xs[j]? with
    | none => rw [hx] at hj; cases hj
    | some x =>
      rw [hx] at hj
      cases hj
      exact hcs j x hx) (by simp [bcells, hs]) (by intro v hv; simp [bcells] at hv; obtain ⟨_, _, rfl⟩ := hv; rfl), alloc_setRow]
  have e : (bcells (List.replicate n 0)).toList.drop (0 + (bcells xs).toList.length) = [] := List.drop_eq_nil_of_le (by simp [bcells, hs])
  rw [e]
  simp [goInt, bcells, hs]
set_option maxRecDepth 100000 in
theorem copiedS {w : World} {v : Value} {y : Nat} (h : SX w v (tx y)) : Calls Tryd.prog 40 #[v] w fun e w' => e = .returned (.slice (some ⟨w.heap.size, 0, none⟩) 512 512) ∧ w' = w.alloc (.cells (bcells (tx y)) 5) := by
  obtain ⟨b, o, cp, cs, rfl, _, _, hg, hcs⟩ := h
  rw [tx_len]
  have hm : (Instr.makeSlice 37 (.int .i64 512) (.int .i64 512)).run Tryd.prog w = .ok (.slice (some ⟨w.heap.size, 0, none⟩) 512 512) (w.alloc (.cells (bcells (List.replicate 512 0)) 5)) := make32 w 512 (by omega)
  have hc := fun ty => copy_sx (cp := cp) hg (tx_len y) hcs ty
  obtain ⟨Z, hZ⟩ : ∃ Z, Z = bcells (List.replicate 512 0) := ⟨_, rfl⟩
  rw [← hZ] at hm
  simp only [← hZ] at hc
  generalize bcells (tx y) = X at *
  clear hg hZ hcs
  go_enter Tryd.func40, Tryd.ntmps40
  go_wp2_with fail
  go_ret
  exact ⟨rfl, rfl⟩
/-- Bytes handed out: as they are, or noughts. -/
def padT (o : Option Nat) : List Nat := match o with | some y => tx y | none => tx 0
set_option maxRecDepth 100000 in
theorem filledD {w : World} {v : Value} {o : Option Nat} (h : (o = none ∧ v = .slice none 0 0) ∨ ∃ y, o = some y ∧ TX w v (tx y)) : Calls Tryd.prog 61 #[v, .int .i64 512] w fun e w' => e = .returned (.slice (some ⟨w.heap.size, 0, none⟩) 512 512) ∧ w' = w.alloc (.cells (bcells (padT o)) 5) := by
  have hm : (Instr.makeSlice 37 (.int .i64 512) (.int .i64 512)).run Tryd.prog w = .ok (.slice (some ⟨w.heap.size, 0, none⟩) 512 512) (w.alloc (.cells (bcells (List.replicate 512 0)) 5)) := make32 w 512 (by omega)
  rcases h with ⟨rfl, rfl⟩ | ⟨y, rfl, b, rfl, hg⟩
  · have hc := fun ty => copy_none w 512 ty
    have e : padT none = List.replicate 512 0 := rfl
    rw [e]
    generalize bcells (List.replicate 512 0) = Z at *
    clear e
    go_enter Tryd.func61, Tryd.ntmps61
    go_wp2_with fail
    go_ret
    exact ⟨rfl, rfl⟩
  · rw [tx_len]
    have hc := fun ty => copy_text hg (tx_len y) ty
    have e : padT (some y) = tx y := rfl
    rw [e]
    obtain ⟨Z, hZ⟩ : ∃ Z, Z = bcells (List.replicate 512 0) := ⟨_, rfl⟩
    rw [← hZ] at hm
    simp only [← hZ] at hc
    generalize bcells (tx y) = X at *
    clear hg hZ e
    go_enter Tryd.func61, Tryd.ntmps61
    go_wp2_with fail
    go_ret
    exact ⟨rfl, rfl⟩
set_option maxRecDepth 100000 in
theorem padD {w : World} {v : Value} {o : Option Nat} (h : (o = none ∧ v = .slice none 0 0) ∨ ∃ y, o = some y ∧ TX w v (tx y)) : Calls Tryd.prog 50 #[v, .int .i64 512] w fun e w' => e = .returned (.tuple #[.slice (some ⟨w.heap.size, 0, none⟩) 512 512, .int .i64 0]) ∧ w' = w.alloc (.cells (bcells (padT o)) 5) := by
  have F := Lib.hid (filledD h)
  obtain ⟨x, n, k, rfl, hn⟩ : ∃ x n k, v = .slice x n k ∧ n ≤ 512 := by
    rcases h with ⟨_, rfl⟩ | ⟨y, _, b, rfl, _⟩
    · exact ⟨_, _, _, rfl, by omega⟩
    · exact ⟨_, _, _, rfl, by rw [tx_len]; omega⟩
  clear h
  have h2 : ¬ (512 : Int) < (n : Int) := by omega
  go_enter Tryd.func50, Tryd.ntmps50
  go_wp2_with (go_at_call 61; refine F.out.mono ?_; rintro e w' ⟨rfl, rfl⟩)
  go_ret2
  exact ⟨rfl, rfl⟩
end Go.Proofs.YtjdamlmoegippaaDoor.dk
