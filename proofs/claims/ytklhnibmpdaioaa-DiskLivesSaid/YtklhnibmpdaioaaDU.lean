/-
  Contracts of package disk: a disk that is nil, or that no call made. Condition: none.
-/
import Derived.Test.YtklhnibmpdaioaaDK
import Derived.Laws.Tables
namespace Go.Proofs.Ytklhnibmpdaioaa
open Go.RowKit
/-- A disk that no call made. -/
structure UD (w : World) (g : Nat) : Prop where
  row : w.heap[g]? = some (.cells Try.zeroCells51 51 (0, 0))
section
variable {w w' : World} {g : Nat}
theorem UD.lt (h : UD w g) : g < w.heap.size := (Array.getElem?_eq_some_iff.1 h.row).1
theorem UD.below (h : UD w g) (hb : Below w.heap.size w w') : UD w' g := ⟨(hb.block g h.lt).trans h.row⟩
theorem UD.c0 (h : UD w g) : w.cell? ⟨g, 0, none⟩ = some (.int .i64 0) := by rw [cell_of_row _ _ _ _ _ _ h.row]; kernel_rfl
theorem UD.c3 (h : UD w g) : w.cell? ⟨g, 3, none⟩ = some (.slice none 0 0) := by rw [cell_of_row _ _ _ _ _ _ h.row]; kernel_rfl
theorem UD.c68 (h : UD w g) : w.cell? ⟨g, 68, none⟩ = some (.int .i64 0) := by rw [cell_of_row _ _ _ _ _ _ h.row]; kernel_rfl
theorem UD.c70 (h : UD w g) : w.cell? ⟨g, 70, none⟩ = some (.bool false) := by rw [cell_of_row _ _ _ _ _ _ h.row]; kernel_rfl
theorem sizeUD (h : UD w g) : Calls Try.prog 22 #[.pointer (some ⟨g, 0, none⟩)] w fun e w' => e = .returned (.int .i64 0) ∧ w = w' := by
  have c0 := h.c0
  clear h
  go_enter Try.func22, Try.ntmps22
  go_wp2
  go_ret
  exact ⟨rfl, rfl⟩
theorem waitsUD (h : UD w g) : Calls Try.prog 18 #[.pointer (some ⟨g, 0, none⟩)] w fun e w' => e = .returned (.int .i64 0) ∧ w = w' := by
  have c3 := h.c3
  clear h
  go_enter Try.func18, Try.ntmps18
  go_wp2
  go_ret
  exact ⟨rfl, rfl⟩
theorem callsUD (h : UD w g) : Calls Try.prog 20 #[.pointer (some ⟨g, 0, none⟩)] w fun e w' => e = .returned (.int .i64 0) ∧ w = w' := by
  have c68 := h.c68
  clear h
  go_enter Try.func20, Try.ntmps20
  go_wp2
  go_ret
  exact ⟨rfl, rfl⟩
theorem downUD (h : UD w g) : Calls Try.prog 21 #[.pointer (some ⟨g, 0, none⟩)] w fun e w' => e = .returned (.bool false) ∧ w = w' := by
  have c70 := h.c70
  clear h
  go_enter Try.func21, Try.ntmps21
  go_wp2
  go_ret
  exact ⟨rfl, rfl⟩
theorem awakeUD (h : UD w g) : Calls Try.prog 61 #[.pointer (some ⟨g, 0, none⟩)] w fun e w' => e = .returned (.int .i64 6) ∧ w = w' := by
  have H := Lib.hid h
  clear h
  go_enter Try.func61, Try.ntmps61
  go_wp2_with (go_at_call 22; refine (sizeUD H.out).mono ?_; rintro e w' ⟨rfl, rfl⟩)
  go_ret
  exact ⟨rfl, rfl⟩
theorem hasUD (h : UD w g) (s : Int) : Calls Try.prog 57 #[.pointer (some ⟨g, 0, none⟩), .int .u32 s] w fun e w' => e = .returned (.int .i64 6) ∧ w = w' := by
  have H := Lib.hid h
  clear h
  go_enter Try.func57, Try.ntmps57
  go_wp2_with (go_at_call 22; refine (sizeUD H.out).mono ?_; rintro e w' ⟨rfl, rfl⟩)
  go_ret
  exact ⟨rfl, rfl⟩
/-- The first of errors, in a new block. -/
theorem or2 (e1 e2 : Int) (w : World) : Calls Try.prog 62 #[.slice (some ⟨w.heap.size, 0, none⟩) 2 2] (w.alloc (.cells #[.int .i64 e1, .int .i64 e2] 25)) fun e w' => e = .returned (.int .i64 (orE [e1, e2])) ∧ w.alloc (.cells #[.int .i64 e1, .int .i64 e2] 25) = w' :=
  orD w.heap.size [e1, e2] (by simp) _ (fun j z hj => by rw [cell_of_row _ _ _ _ _ _ (heap_alloc_new w _)]; rcases j with _ | _ | j <;> simp at hj <;> subst hj <;> rfl)
theorem or3 (e1 e2 e3 : Int) (w : World) : Calls Try.prog 62 #[.slice (some ⟨w.heap.size, 0, none⟩) 3 3] (w.alloc (.cells #[.int .i64 e1, .int .i64 e2, .int .i64 e3] 25)) fun e w' => e = .returned (.int .i64 (orE [e1, e2, e3])) ∧ w.alloc (.cells #[.int .i64 e1, .int .i64 e2, .int .i64 e3] 25) = w' :=
  orD w.heap.size [e1, e2, e3] (by simp) _ (fun j z hj => by rw [cell_of_row _ _ _ _ _ _ (heap_alloc_new w _)]; rcases j with _ | _ | _ | j <;> simp at hj <;> subst hj <;> rfl)
set_option maxRecDepth 100000 in
theorem readN (A : Value) (w : World) (s : Int) (ha : Calls Try.prog 61 #[A] w fun e w' => e = .returned (.int .i64 6) ∧ w = w') (hh : Calls Try.prog 57 #[A, .int .u32 s] w fun e w' => e = .returned (.int .i64 6) ∧ w = w') :
    Calls Try.prog 26 #[A, .int .u32 s] w fun e w' => e = .returned (.tuple #[.slice none 0 0, .int .i64 6]) ∧ Below w.heap.size w w' := by
  have HA := Lib.hid ha
  have HH := Lib.hid hh
  have O := Lib.hid (or2 6 6 w)
  clear ha hh
  go_enter Try.func26, Try.ntmps26
  go_wp2_with fail
  refine HA.out.mono ?_
  rintro e w' ⟨rfl, rfl⟩
  go_wp2_with fail
  refine HH.out.mono ?_
  rintro e w' ⟨rfl, rfl⟩
  go_wp2_with fail
  refine O.out.mono ?_
  rintro e w' ⟨rfl, rfl⟩
  have e1 : orE [6, 6] = 6 := rfl
  rw [e1]
  clear e1
  go_wp2_with fail
  go_ret2
  exact ⟨rfl, (Below.refl _ _).alloc (Nat.le_refl _) _⟩
theorem sureN (w : World) (s : Int) : Calls Try.prog 23 #[.pointer none, .int .u32 s] w fun e w' => e = .returned (.tuple #[.slice none 0 0, .int .i64 6]) ∧ w = w' := by
  go_enter Try.func23, Try.ntmps23
  go_wp2_with fail
  refine (hasD_nil s _).mono ?_
  rintro e w' ⟨rfl, rfl⟩
  go_wp2_with fail
  go_ret2
  exact ⟨rfl, rfl⟩
set_option maxRecDepth 100000 in
theorem writeN (w : World) (s : Int) : Calls Try.prog 27 #[.pointer none, .int .u32 s, .slice none 0 0] w fun e w' => e = .returned (.int .i64 6) ∧ Below w.heap.size w w' := by
  have O := Lib.hid (or3 6 6 3 w)
  go_enter Try.func27, Try.ntmps27
  go_wp2_with fail
  refine (awakeD_nil _).mono ?_
  rintro e w' ⟨rfl, rfl⟩
  go_wp2_with fail
  refine (hasD_nil s _).mono ?_
  rintro e w' ⟨rfl, rfl⟩
  go_wp2_with fail
  refine (fitsD none 0 0 (by omega) _).mono ?_
  rintro e w' ⟨rfl, rfl⟩
  go_wp2_with fail
  refine O.out.mono ?_
  rintro e w' ⟨rfl, rfl⟩
  have e1 : orE [6, 6, 3] = 6 := rfl
  rw [e1]
  clear e1
  go_wp2_with fail
  go_ret
  exact ⟨rfl, (Below.refl _ _).alloc (Nat.le_refl _) _⟩
theorem flushUD (h : UD w g) : Calls Try.prog 28 #[.pointer (some ⟨g, 0, none⟩)] w fun e w' => e = .returned (.int .i64 6) ∧ w = w' := by
  have H := Lib.hid h
  clear h
  go_enter Try.func28, Try.ntmps28
  go_wp2_with fail
  refine (awakeUD H.out).mono ?_
  rintro e w' ⟨rfl, rfl⟩
  go_wp2_with fail
  go_ret
  exact ⟨rfl, rfl⟩
set_option maxRecDepth 100000 in
theorem setregN (Z : Array Value) (w : World) : Calls Try.prog 29 #[.pointer none, .agg Z] w fun e w' => e = .returned (.int .i64 6) ∧ Below w.heap.size w w' := by
  go_enter Try.func29, Try.ntmps29
  go_wp2_with fail
  refine (awakeD_nil _).mono ?_
  rintro e w' ⟨rfl, rfl⟩
  go_wp2_with fail
  go_ret
  exact ⟨rfl, (Below.refl _ _).alloc (Nat.le_refl _) _⟩
theorem failUD (h : UD w g) (n : Int) : Calls Try.prog 30 #[.pointer (some ⟨g, 0, none⟩), .int .i64 n] w fun e w' => e = .returned (.int .i64 6) ∧ w = w' := by
  have H := Lib.hid h
  clear h
  go_enter Try.func30, Try.ntmps30
  go_wp2_with fail
  refine (sizeUD H.out).mono ?_
  rintro e w' ⟨rfl, rfl⟩
  go_wp2_with fail
  go_ret
  exact ⟨rfl, rfl⟩
theorem crashN (x : Option Addr) (n k : Nat) (w : World) : Calls Try.prog 31 #[.pointer none, .slice x n k] w fun e w' => e = .returned (.int .i64 6) ∧ Below w.heap.size w w' := by
  go_enter Try.func31, Try.ntmps31
  go_wp2_with fail
  refine (sizeD_nil _).mono ?_
  rintro e w' ⟨rfl, rfl⟩
  go_wp2_with fail
  go_ret
  exact ⟨rfl, (Below.refl _ _).alloc (Nat.le_refl _) _⟩
set_option maxRecDepth 100000 in
theorem tamperUD (h : UD w g) (s : Int) : Calls Try.prog 32 #[.pointer (some ⟨g, 0, none⟩), .int .u32 s, .slice none 0 0] w fun e w' => e = .returned (.int .i64 6) ∧ Below w.heap.size w w' := by
  have H := Lib.hid h
  have O := Lib.hid (or2 6 3 w)
  clear h
  go_enter Try.func32, Try.ntmps32
  go_wp2_with fail
  refine (hasUD H.out s).mono ?_
  rintro e w' ⟨rfl, rfl⟩
  go_wp2_with fail
  refine (fitsD none 0 0 (by omega) _).mono ?_
  rintro e w' ⟨rfl, rfl⟩
  go_wp2_with fail
  refine O.out.mono ?_
  rintro e w' ⟨rfl, rfl⟩
  have e1 : orE [6, 3] = 6 := rfl
  rw [e1]
  clear e1
  go_wp2_with fail
  go_ret
  exact ⟨rfl, (Below.refl _ _).alloc (Nat.le_refl _) _⟩
/-- Noughts. -/
def zer64 : Array Value := Array.replicate 64 (.int .u8 0)
theorem zero44 (w : World) : (zeroValue 44).run Try.prog w = .ok (.agg zer64) w := by kernel_rfl
theorem info44s : (Try.prog.info? 44).map (·.size) = some 64 := by kernel_rfl
theorem results_cell_tmp {P : Program} {fn : Func} {p q : Tmp} {ty : TypeId} (h : fn.results = #[.cell p ty, .tmp q]) (tmps : Array Value) (w : World) (g : Nat) (t : TypeId) (cs : Array Value) (fr : Nat × Nat) (d : TypeDesc)
    (hp : tmps.getD p undef = .pointer (some ⟨g, 0, none⟩)) (hg : w.heap[g]? = some (.cells cs t fr))
    (hu : P.underlying ty = some d) (hd : (match d with | .struct _ | .array _ _ => true | _ => false) = true) (hi : (P.info? ty).map (·.size) = some cs.size) :
    (results fn tmps).run P w = .ok (.tuple #[.agg cs, tmps.getD q undef]) w := by
  have hp' : tmps[p]?.getD undef = .pointer (some ⟨g, 0, none⟩) := by simpa using hp
  simp [results, h, hp', asAddr, run_loadVar_row w g t ty cs fr d hg hu hd hi]
set_option maxRecDepth 100000 in
theorem regUD (h : UD w g) : Calls Try.prog 25 #[.pointer (some ⟨g, 0, none⟩)] w fun e w' => e = .returned (.tuple #[.agg zer64, .int .i64 6]) ∧ Below w.heap.size w w' := by
  have hz := zero44
  have IZ : Hid ((Try.prog.info? 44).map (·.size) = some zer64.size) := info44s.trans (by rfl)
  have ON : Hid (zer64.all (·.oneCell') = true) := by show _ = _; decide +kernel
  generalize zer64 = Z at *
  have HU := Lib.hid (h.below ((Below.refl _ _).alloc (Nat.le_refl _) (.cells Z 44)))
  have G : Hid ((w.alloc (.cells Z 44)).heap[w.heap.size]? = some (.cells Z 44 (0, 0))) := heap_alloc_new _ _
  clear h
  go_enter Try.func25, Try.ntmps25
  go_wp2_with fail
  refine (awakeUD HU.out).mono ?_
  rintro e w' ⟨rfl, rfl⟩
  go_wp2_with (refine wpList_store_row rfl 44 (.tmp 2) (.tmp 9) rfl w.heap.size Z rfl rfl 44 Z G.out IZ.out rfl ON.out ?_)
  rw [alloc_setRow]
  refine bodyPost_ret (v := .tuple #[.agg Z, .int .i64 6]) (results_cell_tmp Try.results25 _ _ w.heap.size 44 Z (0, 0) _ rfl G.out Try.underlying44 rfl IZ.out) rfl ⟨rfl, ?_⟩
  exact (Below.refl _ _).alloc (Nat.le_refl _) _
end
end Go.Proofs.Ytklhnibmpdaioaa
