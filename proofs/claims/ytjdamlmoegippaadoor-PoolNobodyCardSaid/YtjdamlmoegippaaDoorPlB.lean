/-
  Contracts of package pool: what is put into a pool that is nil, or that no call made, and what is got of one. Condition: none.
-/
import Derived.Test.YtjdamlmoegippaaDoorDkDI
import Derived.Laws.Tables
import Derived.Deep.MidRow
import Derived.Great.BuildSlice
import Derived.Deep.RegionHeld3
import Derived.Deep.Cut
namespace Go.Proofs.YtjdamlmoegippaaDoor.dk
open Go.RowKit
/-- A disk of the call's own. -/
structure LK (w0 w : World) (g N sb hb : Nat) (wv : Value) (su : Nat → Option Nat) (ws : List (Nat × Nat)) (rg : List Value) (c p : Int) (d : Bool) (K : Nat) : Prop where
  dk : DK w g N sb hb wv su ws rg c p d K
  b : Below w0.heap.size w0 w
  og : w0.heap.size ≤ g
  os : w0.heap.size ≤ sb
  oh : w0.heap.size ≤ hb
  ov : ∀ k, wv.ownBlock = some k → w0.heap.size ≤ k
section
variable {w0 w w' : World} {g N sb hb : Nat} {wv wv' : Value} {su su' : Nat → Option Nat} {ws ws' : List (Nat × Nat)} {rg rg' : List Value} {c p c' p' : Int} {d d' : Bool} {K K' : Nat}
theorem LK.step (h : LK w0 w g N sb hb wv su ws rg c p d K) (k : DkW w w' g N sb hb wv wv' su' ws' rg' c' p' d' K') : LK w0 w' g N sb hb wv' su' ws' rg' c' p' d' K' := by
  refine ⟨k.dk, Mods.below h.b k.m h.b.size (fun b hb' => ?_), h.og, h.os, h.oh, fun j hj => ?_⟩
  · rcases hb' with rfl | rfl | rfl | e
    · exact h.og
    · exact h.os
    · exact h.oh
    · exact h.ov b e
  · rcases k.an j hj with e | e
    · exact h.ov j e
    · have := h.b.size; omega
theorem LK.below (h : LK w0 w g N sb hb wv su ws rg c p d K) (b : Below w.heap.size w w') : LK w0 w' g N sb hb wv su ws rg c p d K :=
  ⟨h.dk.below b, h.b.trans (b.mono h.b.size), h.og, h.os, h.oh, h.ov⟩
end
end Go.Proofs.YtjdamlmoegippaaDoor.dk
namespace Go.Proofs.YtjdamlmoegippaaDoor.dk
open Go.RowKit
/-- A disk that no call made. -/
structure UD (w : World) (g : Nat) : Prop where
  row : w.heap[g]? = some (.cells Tryd.zeroCells94 94 (0, 0))
section
variable {w w' : World} {g : Nat}
theorem UD.lt (h : UD w g) : g < w.heap.size := (Array.getElem?_eq_some_iff.1 h.row).1
theorem UD.below (h : UD w g) (hb : Below w.heap.size w w') : UD w' g := ⟨(hb.block g h.lt).trans h.row⟩
theorem UD.c0 (h : UD w g) : w.cell? ⟨g, 0, none⟩ = some (.int .i64 0) := by rw [cell_of_row _ _ _ _ _ _ h.row]; kernel_rfl
theorem UD.c3 (h : UD w g) : w.cell? ⟨g, 3, none⟩ = some (.slice none 0 0) := by rw [cell_of_row _ _ _ _ _ _ h.row]; kernel_rfl
theorem UD.c68 (h : UD w g) : w.cell? ⟨g, 68, none⟩ = some (.int .i64 0) := by rw [cell_of_row _ _ _ _ _ _ h.row]; kernel_rfl
theorem UD.c70 (h : UD w g) : w.cell? ⟨g, 70, none⟩ = some (.bool false) := by rw [cell_of_row _ _ _ _ _ _ h.row]; kernel_rfl
/-- The first of errors, in a new block. -/
theorem or2 (e1 e2 : Int) (w : World) : Calls Tryd.prog 36 #[.slice (some ⟨w.heap.size, 0, none⟩) 2 2] (w.alloc (.cells #[.int .i64 e1, .int .i64 e2] 34)) fun e w' => e = .returned (.int .i64 (orE [e1, e2])) ∧ w.alloc (.cells #[.int .i64 e1, .int .i64 e2] 34) = w' :=
  orD w.heap.size [e1, e2] (by simp) _ (fun j z hj => by rw [cell_of_row _ _ _ _ _ _ (heap_alloc_new w _)]; rcases j with _ | _ | j <;> simp at hj <;> subst hj <;> rfl)
theorem results_cell_tmp {P : Program} {fn : Func} {p q : Tmp} {ty : TypeId} (h : fn.results = #[.cell p ty, .tmp q]) (tmps : Array Value) (w : World) (g : Nat) (t : TypeId) (cs : Array Value) (fr : Nat × Nat) (d : TypeDesc)
    (hp : tmps.getD p undef = .pointer (some ⟨g, 0, none⟩)) (hg : w.heap[g]? = some (.cells cs t fr))
    (hu : P.underlying ty = some d) (hd : (match d with | .struct _ | .array _ _ => true | _ => false) = true) (hi : (P.info? ty).map (·.size) = some cs.size) :
    (results fn tmps).run P w = .ok (.tuple #[.agg cs, tmps.getD q undef]) w := by
  have hp' : tmps[p]?.getD undef = .pointer (some ⟨g, 0, none⟩) := by simpa using hp
  simp [results, h, hp', asAddr, run_loadVar_row w g t ty cs fr d hg hu hd hi]
end
end Go.Proofs.YtjdamlmoegippaaDoor.dk
namespace Go.Proofs.YtjdamlmoegippaaDoor.dk
open Go.RowKit
section
variable {w w' : World} {g N sb hb : Nat} {wv : Value} {su : Nat → Option Nat} {ws : List (Nat × Nat)} {rg : List Value} {c p : Int} {d : Bool} {K : Nat}
theorem dcells_rg {N sb hb : Nat} {wv : Value} {rg : List Value} {c p : Int} {d : Bool} (h : rg.length = 64) (j : Nat) (hj : j < 64) : (dcells N sb hb wv rg c p d)[4 + j]? = rg[j]? := by
  unfold dcells
  rw [List.getElem?_toArray, List.getElem?_append_right (by simp), List.getElem?_append_left (by simp [h]; omega)]
  simp
theorem DK.range (h : DK w g N sb hb wv su ws rg c p d K) : w.rangeAt g 4 rg := fun j v hv => by
  have hj : j < rg.length := (List.getElem?_eq_some_iff.1 hv).1
  rw [cell_of_row _ _ _ _ _ _ h.row, dcells_rg h.len j (by rw [← h.len]; exact hj), hv]
theorem DK.there (h : DK w g N sb hb wv su ws rg c p d K) : w.there g 4 64 := fun j hj => by
  refine ⟨?_, h.fz _⟩
  rw [cell_of_row _ _ _ _ _ _ h.row, dcells_rg h.len j hj, List.getElem?_eq_getElem (by rw [h.len]; exact hj)]
  rfl
end
end Go.Proofs.YtjdamlmoegippaaDoor.dk
namespace Go.Proofs.YtjdamlmoegippaaDoor.pl
open Go.RowKit
set_option maxRecDepth 100000 in
theorem made_nil (w : World) : Calls Tryd.prog 20 #[.pointer none] w fun e w' => e = .returned (.bool false) ∧ w = w' := by
  go_enter Tryd.func20, Tryd.ntmps20
  go_wp2
  go_ret
  exact ⟨rfl, rfl⟩
set_option maxRecDepth 100000 in
theorem made_no (g : Nat) (w : World) (h : w.cell? ⟨g, 0, none⟩ = some (.pointer none)) : Calls Tryd.prog 20 #[.pointer (some ⟨g, 0, none⟩)] w fun e w' => e = .returned (.bool false) ∧ w = w' := by
  go_enter Tryd.func20, Tryd.ntmps20
  go_wp2
  go_ret
  exact ⟨rfl, rfl⟩
theorem field_nil (w : World) : Calls Tryd.prog 12 #[.pointer none] w fun e w' => e = .returned (.pointer none) ∧ w = w' := by
  go_enter Tryd.func12, Tryd.ntmps12
  go_wp2
  go_ret
  exact ⟨rfl, rfl⟩
theorem field_at (g : Nat) (f : Option Addr) (w : World) (h : w.cell? ⟨g, 1, none⟩ = some (.pointer f)) : Calls Tryd.prog 12 #[.pointer (some ⟨g, 0, none⟩)] w fun e w' => e = .returned (.pointer f) ∧ w = w' := by
  go_enter Tryd.func12, Tryd.ntmps12
  go_wp2
  go_ret
  exact ⟨rfl, rfl⟩
/-- A pool of which no call of New came. -/
def NP (w : World) (p : Value) : Prop := p = .pointer none ∨ ∃ g, p = .pointer (some ⟨g, 0, none⟩) ∧ w.cell? ⟨g, 0, none⟩ = some (.pointer none)
theorem made (p : Value) (w : World) (h : NP w p) : Calls Tryd.prog 20 #[p] w fun e w' => e = .returned (.bool false) ∧ w = w' := by
  rcases h with rfl | ⟨g, rfl, h⟩
  · exact made_nil w
  · exact made_no g w h
set_option maxRecDepth 100000 in
theorem clash_no (p : Value) (w : World) (h : NP w p) : Calls Tryd.prog 13 #[p] w fun e w' => e = .returned (.bool false) ∧ w = w' := by
  have HP := Lib.hid (made p w h)
  clear h
  go_enter Tryd.func13, Tryd.ntmps13
  go_wp2_with fail
  refine (HP.out).mono ?_
  rintro e w' ⟨rfl, rfl⟩
  go_wp2_with fail
  go_ret
  exact ⟨rfl, rfl⟩
set_option maxRecDepth 100000 in
theorem new_nil (a b : Int) (l : Value) (w : World) : Calls Tryd.prog 10 #[.pointer none, .int .i64 a, .int .i64 b, l] w fun e w' => e = .returned (.tuple #[.pointer none, .int .i64 6]) ∧ Below w.heap.size w w' := by
  have SZ := Lib.hid dk.sizeD_nil
  go_enter Tryd.func10, Tryd.ntmps10
  go_wp2_with fail
  refine (SZ.out _).mono ?_
  rintro e w' ⟨rfl, rfl⟩
  go_wp2_with fail
  go_ret2
  exact ⟨rfl, (Below.refl _ _).alloc (Nat.le_refl _) _⟩
end Go.Proofs.YtjdamlmoegippaaDoor.pl
namespace Go.Proofs.YtjdamlmoegippaaDoor.pl
open Go.RowKit
theorem blk_lt {w : World} {g : Nat} {o : Obj} (h : w.heap[g]? = some o) : g < w.heap.size := (Array.getElem?_eq_some_iff.1 h).1
theorem below_row {B g : Nat} (w : World) (cs : Array Value) (hg : B ≤ g) : Below B w (w.setRow g cs) :=
  ⟨rfl, rfl, rfl, by simp, fun k hk => setRow_other w g k cs (by omega)⟩
/-- The zero reference's cells. -/
def zr : Array Value := #[.int .u32 0] ++ Array.replicate 32 (.int .u8 0)
set_option maxRecDepth 100000 in
theorem z26 (w : World) : (zeroValue 26).run Tryd.prog w = .ok (.agg zr) w := by kernel_rfl
set_option maxRecDepth 100000 in
theorem b26 (w : World) : (Instr.build 26 #[]).run Tryd.prog w = .ok (.agg zr) w := by kernel_rfl
set_option maxRecDepth 100000 in
theorem i26 : (Tryd.prog.info? 26).map (·.size) = some zr.size := by kernel_rfl
theorem o26 : zr.all (·.oneCell') = true := by kernel_rfl
theorem wpList_build_any {ops : Array Oper} {rest : List Oper} {o : Oper} {a : Act} {w : World} {Q : Exit → Act → World → Prop} (hgd : o.guard = none) (t : TypeId) (parts : Array (Nat × Operand)) (ho : o.op = .build t parts)
    (vs : Array (Nat × Value)) (hv : parts.map (fun (i, x) => (i, a.eval x)) = vs) {v : Value} (hr : (Instr.build t vs).run Tryd.prog w = .ok v w) (h : wpList Tryd.prog ops Q rest (a.put o.dst v) w) : wpList Tryd.prog ops Q (o :: rest) a w := by
  refine wpList_plain hgd fun K hK => ?_
  subst hv
  unfold Oper.wp execOp
  simp only [ho, Sem.run_bind, Sem.run_pure]
  rw [hr]
  exact hK _ _ h
theorem wpList_blank {ops : Array Oper} {rest : List Oper} {o : Oper} {a : Act} {w : World} {Q : Exit → Act → World → Prop} (hgd : o.guard = none) (t : TypeId)
    (ho : o.op = .build t #[]) {v : Value} (hr : (Instr.build t #[]).run Tryd.prog w = .ok v w) (h : wpList Tryd.prog ops Q rest (a.put o.dst v) w) : wpList Tryd.prog ops Q (o :: rest) a w :=
  wpList_build_any hgd t #[] ho #[] (by simp) hr h
set_option maxRecDepth 100000 in
theorem put_no (p : Value) (t : Int) (b : Value) (w : World) (h : NP w p) : Calls Tryd.prog 7 #[p, .int .i64 t, b] w fun e w' => e = .returned (.tuple #[.agg zr, .int .i64 6]) ∧ Below w.heap.size w w' := by
  have hz := z26
  have HB := Lib.hid b26
  have IZ := Lib.hid i26
  have OZ := Lib.hid o26
  generalize zr = Z at *
  obtain ⟨W0, hW0⟩ : ∃ W0, W0 = w.alloc (.cells Z 26) := ⟨_, rfl⟩
  have b0 : Below w.heap.size w W0 := by rw [hW0]; exact (Below.refl _ _).alloc (Nat.le_refl _) _
  have G0 : Hid (W0.heap[w.heap.size]? = some (.cells Z 26 (0, 0))) := by show _ = _; rw [hW0]; exact heap_alloc_new w _
  have h1 : NP W0 p := by
    rcases h with rfl | ⟨g, rfl, h⟩
    · exact .inl rfl
    · exact .inr ⟨g, rfl, (b0.cell (p := ⟨g, 0, none⟩) (by unfold World.cell? at h; cases hb : w.heap[g]? with | none => simp [hb] at h | some o => exact blk_lt hb)).trans h⟩
  have MD := Lib.hid (made p W0 h1)
  have FIN := Lib.hid (setRow_heap W0 w.heap.size _ Z 26 _ G0.out)
  have BE := Lib.hid (b0.trans (below_row W0 Z (Nat.le_refl _)))
  have HW0 := Lib.hid hW0
  clear hW0 b0 h h1
  go_enter Tryd.func7, Tryd.ntmps7
  go_upto_region 1 with (fail)
  rw [← HW0.out]
  go_wp2_with fail
  refine (MD.out).mono ?_
  rintro e w' ⟨rfl, rfl⟩
  clear hz
  go_wp2_with (first
    | (refine wpList_blank rfl 26 rfl (HB.out _) ?_)
    | (refine wpList_store_row rfl 26 (.tmp 6) (.tmp 15) rfl w.heap.size Z rfl rfl 26 Z G0.out IZ.out rfl OZ.out ?_))
  exact bodyPost_ret (v := .tuple #[.agg Z, .int .i64 6]) (dk.results_cell_tmp Tryd.results7 _ _ w.heap.size 26 Z (0, 0) _ rfl FIN.out Tryd.underlying26 rfl IZ.out) rfl ⟨rfl, BE.out⟩
theorem NP.below {w w' : World} {p : Value} (h : NP w p) (hb : Below w.heap.size w w') : NP w' p := by
  rcases h with rfl | ⟨g, rfl, h⟩
  · exact .inl rfl
  · exact .inr ⟨g, rfl, (hb.cell (p := ⟨g, 0, none⟩) (by unfold World.cell? at h; cases hb : w.heap[g]? with | none => simp [hb] at h | some o => exact blk_lt hb)).trans h⟩
set_option maxRecDepth 100000 in
theorem get_no (p : Value) (R : Array Value) (w : World) (h : NP w p) : Calls Tryd.prog 9 #[p, .agg R] w fun e w' => e = .returned (.tuple #[.slice none 0 0, .int .i64 6]) ∧ Below w.heap.size w w' := by
  obtain ⟨W0, hW0⟩ : ∃ W0, W0 = w.alloc (.cells R 26) := ⟨_, rfl⟩
  have b0 : Below w.heap.size w W0 := by rw [hW0]; exact (Below.refl _ _).alloc (Nat.le_refl _) _
  have MD := Lib.hid (made p W0 (h.below b0))
  have BE := Lib.hid b0
  have HW0 := Lib.hid hW0
  clear hW0 b0 h
  go_enter Tryd.func9, Tryd.ntmps9
  go_upto_region 1 with (fail)
  rw [← HW0.out]
  go_wp2_with fail
  refine (MD.out).mono ?_
  rintro e w' ⟨rfl, rfl⟩
  go_wp2_with fail
  go_ret2
  exact ⟨rfl, BE.out⟩
end Go.Proofs.YtjdamlmoegippaaDoor.pl
