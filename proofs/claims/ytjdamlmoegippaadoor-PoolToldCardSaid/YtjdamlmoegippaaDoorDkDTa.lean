/-
  Contracts: the closure of disk.forget, slices.IndexFunc, slices.DeleteFunc over a row of writes. Condition: the row lies in memory as said.
-/
import Derived.Test.YtjdamlmoegippaaDoorDkDI
import Derived.Laws.Tables
import Derived.Deep.MidRow
import Derived.Great.BuildSlice
import Derived.Deep.RegionHeld3
import Derived.Deep.Cut
import Derived.Lib.SliceRun
namespace Go.Proofs.YtjdamlmoegippaaDoor.dk
open Go.RowKit
/-- A disk of the call's own. -/
structure LK (w0 w : World) (g N sb hb : Nat) (wv : Value) (su : Nat → Option Nat) (ws : List (Nat × Nat)) (rg : List Value) (c p : Int) (d : Bool) (K : Nat) : Prop where
  dk : DK w g N sb hb wv su ws rg c p d K
  b : Below w0.heap.size w0 w
  og : w0.heap.size ≤ g
  os : w0.heap.size ≤ sb
  oh : w0.heap.size ≤ hb
  ov : ∀ k, wv.ownBlock = some k → w0.heap.size ≤ k
section
variable {w0 w w' : World} {g N sb hb : Nat} {wv wv' : Value} {su su' : Nat → Option Nat} {ws ws' : List (Nat × Nat)} {rg rg' : List Value} {c p c' p' : Int} {d d' : Bool} {K K' : Nat}
theorem LK.step (h : LK w0 w g N sb hb wv su ws rg c p d K) (k : DkW w w' g N sb hb wv wv' su' ws' rg' c' p' d' K') : LK w0 w' g N sb hb wv' su' ws' rg' c' p' d' K' := by
  refine ⟨k.dk, Mods.below h.b k.m h.b.size (fun b hb' => ?_), h.og, h.os, h.oh, fun j hj => ?_⟩
  · rcases hb' with rfl | rfl | rfl | e
    · exact h.og
    · exact h.os
    · exact h.oh
    · exact h.ov b e
  · rcases k.an j hj with e | e
    · exact h.ov j e
    · have := h.b.size; omega
theorem LK.below (h : LK w0 w g N sb hb wv su ws rg c p d K) (b : Below w.heap.size w w') : LK w0 w' g N sb hb wv su ws rg c p d K :=
  ⟨h.dk.below b, h.b.trans (b.mono h.b.size), h.og, h.os, h.oh, h.ov⟩
end
end Go.Proofs.YtjdamlmoegippaaDoor.dk
namespace Go.Proofs.YtjdamlmoegippaaDoor.dk
open Go.RowKit
/-- A disk that no call made. -/
structure UD (w : World) (g : Nat) : Prop where
  row : w.heap[g]? = some (.cells Tryd.zeroCells94 94 (0, 0))
section
variable {w w' : World} {g : Nat}
theorem UD.lt (h : UD w g) : g < w.heap.size := (Array.getElem?_eq_some_iff.1 h.row).1
theorem UD.below (h : UD w g) (hb : Below w.heap.size w w') : UD w' g := ⟨(hb.block g h.lt).trans h.row⟩
theorem UD.c0 (h : UD w g) : w.cell? ⟨g, 0, none⟩ = some (.int .i64 0) := by rw [cell_of_row _ _ _ _ _ _ h.row]; kernel_rfl
theorem UD.c3 (h : UD w g) : w.cell? ⟨g, 3, none⟩ = some (.slice none 0 0) := by rw [cell_of_row _ _ _ _ _ _ h.row]; kernel_rfl
theorem UD.c68 (h : UD w g) : w.cell? ⟨g, 68, none⟩ = some (.int .i64 0) := by rw [cell_of_row _ _ _ _ _ _ h.row]; kernel_rfl
theorem UD.c70 (h : UD w g) : w.cell? ⟨g, 70, none⟩ = some (.bool false) := by rw [cell_of_row _ _ _ _ _ _ h.row]; kernel_rfl
/-- The first of errors, in a new block. -/
theorem or2 (e1 e2 : Int) (w : World) : Calls Tryd.prog 36 #[.slice (some ⟨w.heap.size, 0, none⟩) 2 2] (w.alloc (.cells #[.int .i64 e1, .int .i64 e2] 34)) fun e w' => e = .returned (.int .i64 (orE [e1, e2])) ∧ w.alloc (.cells #[.int .i64 e1, .int .i64 e2] 34) = w' :=
  orD w.heap.size [e1, e2] (by simp) _ (fun j z hj => by rw [cell_of_row _ _ _ _ _ _ (heap_alloc_new w _)]; rcases j with _ | _ | j <;> simp at hj <;> subst hj <;> rfl)
theorem results_cell_tmp {P : Program} {fn : Func} {p q : Tmp} {ty : TypeId} (h : fn.results = #[.cell p ty, .tmp q]) (tmps : Array Value) (w : World) (g : Nat) (t : TypeId) (cs : Array Value) (fr : Nat × Nat) (d : TypeDesc)
    (hp : tmps.getD p undef = .pointer (some ⟨g, 0, none⟩)) (hg : w.heap[g]? = some (.cells cs t fr))
    (hu : P.underlying ty = some d) (hd : (match d with | .struct _ | .array _ _ => true | _ => false) = true) (hi : (P.info? ty).map (·.size) = some cs.size) :
    (results fn tmps).run P w = .ok (.tuple #[.agg cs, tmps.getD q undef]) w := by
  have hp' : tmps[p]?.getD undef = .pointer (some ⟨g, 0, none⟩) := by simpa using hp
  simp [results, h, hp', asAddr, run_loadVar_row w g t ty cs fr d hg hu hd hi]
end
end Go.Proofs.YtjdamlmoegippaaDoor.dk
namespace Go.Proofs.YtjdamlmoegippaaDoor.dk
open Go.RowKit
section
variable {w w' : World} {g N sb hb : Nat} {wv : Value} {su : Nat → Option Nat} {ws : List (Nat × Nat)} {rg : List Value} {c p : Int} {d : Bool} {K : Nat}
theorem dcells_rg {N sb hb : Nat} {wv : Value} {rg : List Value} {c p : Int} {d : Bool} (h : rg.length = 64) (j : Nat) (hj : j < 64) : (dcells N sb hb wv rg c p d)[4 + j]? = rg[j]? := by
  unfold dcells
  rw [List.getElem?_toArray, List.getElem?_append_right (by simp), List.getElem?_append_left (by simp [h]; omega)]
  simp
theorem DK.range (h : DK w g N sb hb wv su ws rg c p d K) : w.rangeAt g 4 rg := fun j v hv => by
  have hj : j < rg.length := (List.getElem?_eq_some_iff.1 hv).1
  rw [cell_of_row _ _ _ _ _ _ h.row, dcells_rg h.len j (by rw [← h.len]; exact hj), hv]
theorem DK.there (h : DK w g N sb hb wv su ws rg c p d K) : w.there g 4 64 := fun j hj => by
  refine ⟨?_, h.fz _⟩
  rw [cell_of_row _ _ _ _ _ _ h.row, dcells_rg h.len j hj, List.getElem?_eq_getElem (by rw [h.len]; exact hj)]
  rfl
end
end Go.Proofs.YtjdamlmoegippaaDoor.dk
namespace Go.Proofs.YtjdamlmoegippaaDoor.pl
open Go.RowKit
set_option maxRecDepth 100000 in
theorem made_nil (w : World) : Calls Tryd.prog 20 #[.pointer none] w fun e w' => e = .returned (.bool false) ∧ w = w' := by
  go_enter Tryd.func20, Tryd.ntmps20
  go_wp2
  go_ret
  exact ⟨rfl, rfl⟩
set_option maxRecDepth 100000 in
theorem made_no (g : Nat) (w : World) (h : w.cell? ⟨g, 0, none⟩ = some (.pointer none)) : Calls Tryd.prog 20 #[.pointer (some ⟨g, 0, none⟩)] w fun e w' => e = .returned (.bool false) ∧ w = w' := by
  go_enter Tryd.func20, Tryd.ntmps20
  go_wp2
  go_ret
  exact ⟨rfl, rfl⟩
theorem field_at (g : Nat) (f : Option Addr) (w : World) (h : w.cell? ⟨g, 1, none⟩ = some (.pointer f)) : Calls Tryd.prog 12 #[.pointer (some ⟨g, 0, none⟩)] w fun e w' => e = .returned (.pointer f) ∧ w = w' := by
  go_enter Tryd.func12, Tryd.ntmps12
  go_wp2
  go_ret
  exact ⟨rfl, rfl⟩
/-- A pool of which no call of New came. -/
def NP (w : World) (p : Value) : Prop := p = .pointer none ∨ ∃ g, p = .pointer (some ⟨g, 0, none⟩) ∧ w.cell? ⟨g, 0, none⟩ = some (.pointer none)
theorem made (p : Value) (w : World) (h : NP w p) : Calls Tryd.prog 20 #[p] w fun e w' => e = .returned (.bool false) ∧ w = w' := by
  rcases h with rfl | ⟨g, rfl, h⟩
  · exact made_nil w
  · exact made_no g w h
end Go.Proofs.YtjdamlmoegippaaDoor.pl
namespace Go.Proofs.YtjdamlmoegippaaDoor.pl
open Go.RowKit
theorem blk_lt {w : World} {g : Nat} {o : Obj} (h : w.heap[g]? = some o) : g < w.heap.size := (Array.getElem?_eq_some_iff.1 h).1
theorem below_row {B g : Nat} (w : World) (cs : Array Value) (hg : B ≤ g) : Below B w (w.setRow g cs) :=
  ⟨rfl, rfl, rfl, by simp, fun k hk => setRow_other w g k cs (by omega)⟩
/-- The zero reference's cells. -/
def zr : Array Value := #[.int .u32 0] ++ Array.replicate 32 (.int .u8 0)
set_option maxRecDepth 100000 in
theorem z26 (w : World) : (zeroValue 26).run Tryd.prog w = .ok (.agg zr) w := by kernel_rfl
set_option maxRecDepth 100000 in
theorem b26 (w : World) : (Instr.build 26 #[]).run Tryd.prog w = .ok (.agg zr) w := by kernel_rfl
set_option maxRecDepth 100000 in
theorem i26 : (Tryd.prog.info? 26).map (·.size) = some zr.size := by kernel_rfl
theorem o26 : zr.all (·.oneCell') = true := by kernel_rfl
theorem wpList_build_any {ops : Array Oper} {rest : List Oper} {o : Oper} {a : Act} {w : World} {Q : Exit → Act → World → Prop} (hgd : o.guard = none) (t : TypeId) (parts : Array (Nat × Operand)) (ho : o.op = .build t parts)
    (vs : Array (Nat × Value)) (hv : parts.map (fun (i, x) => (i, a.eval x)) = vs) {v : Value} (hr : (Instr.build t vs).run Tryd.prog w = .ok v w) (h : wpList Tryd.prog ops Q rest (a.put o.dst v) w) : wpList Tryd.prog ops Q (o :: rest) a w := by
  refine wpList_plain hgd fun K hK => ?_
  subst hv
  unfold Oper.wp execOp
  simp only [ho, Sem.run_bind, Sem.run_pure]
  rw [hr]
  exact hK _ _ h
theorem wpList_blank {ops : Array Oper} {rest : List Oper} {o : Oper} {a : Act} {w : World} {Q : Exit → Act → World → Prop} (hgd : o.guard = none) (t : TypeId)
    (ho : o.op = .build t #[]) {v : Value} (hr : (Instr.build t #[]).run Tryd.prog w = .ok v w) (h : wpList Tryd.prog ops Q rest (a.put o.dst v) w) : wpList Tryd.prog ops Q (o :: rest) a w :=
  wpList_build_any hgd t #[] ho #[] (by simp) hr h
theorem NP.below {w w' : World} {p : Value} (h : NP w p) (hb : Below w.heap.size w w') : NP w' p := by
  rcases h with rfl | ⟨g, rfl, h⟩
  · exact .inl rfl
  · exact .inr ⟨g, rfl, (hb.cell (p := ⟨g, 0, none⟩) (by unfold World.cell? at h; cases hb : w.heap[g]? with | none => simp [hb] at h | some o => exact blk_lt hb)).trans h⟩
end Go.Proofs.YtjdamlmoegippaaDoor.pl
namespace Go.Proofs.YtjdamlmoegippaaDoor.dk
open Go.RowKit
/-- A text of a write. -/
abbrev tv (b : Nat) : Value := .slice (some ⟨b, 0, none⟩) 512 512
/-- Writes as cells: the sector, the byte, the text's block. -/
def fl : List (Nat × Nat × Nat) → List Value
  | [] => []
  | (s, _, b) :: r => .int .u32 s :: tv b :: fl r
theorem fl_len : ∀ ts : List (Nat × Nat × Nat), (fl ts).length = ts.length * 2
  | [] => rfl
  | (_, _, _) :: r => by simp [fl, fl_len r]; omega
theorem fl_at : ∀ {ts : List (Nat × Nat × Nat)} {i s y b : Nat}, ts[i]? = some (s, y, b) → (fl ts)[i * 2]? = some (.int .u32 s) ∧ (fl ts)[i * 2 + 1]? = some (tv b)
  | [], i, s, y, b, h => by simp at h
  | (s', y', b') :: r, 0, s, y, b, h => by
    simp at h; obtain ⟨rfl, rfl, rfl⟩ := h; exact ⟨rfl, rfl⟩
  | (s', y', b') :: r, i + 1, s, y, b, h => by
    have := fl_at (ts := r) (i := i) (s := s) (y := y) (b := b) (by simpa using h)
    rw [show (i + 1) * 2 = i * 2 + 1 + 1 by omega]
    exact this
theorem fl_one : ∀ (ts : List (Nat × Nat × Nat)), ∀ u ∈ fl ts, u.oneCell' = true
  | [], u, h => by simp [fl] at h
  | (_, _, _) :: r, u, h => by
    simp only [fl, List.mem_cons] at h
    rcases h with rfl | rfl | h
    · rfl
    · rfl
    · exact fl_one r u h
theorem WS_open {w : World} : ∀ {ws : List (Nat × Nat)} {vs : List Value}, WS w ws vs → ∃ ts : List (Nat × Nat × Nat), ws = ts.map (fun t => (t.1, t.2.1)) ∧ vs = fl ts ∧ ∀ t ∈ ts, t.1 < 65536 ∧ TX w (tv t.2.2) (tx t.2.1) ∧ YB t.2.1
  | [], vs, h => ⟨[], rfl, h, by simp⟩
  | (s, y) :: r, vs, h => by
    obtain ⟨v, vs', e, h1, ⟨b, e2, h2⟩, h3, h4⟩ := h
    obtain ⟨ts, t1, t2, t3⟩ := WS_open h4
    rw [tx_len] at e2
    refine ⟨(s, y, b) :: ts, by simp [t1], by rw [e, t2, e2]; rfl, fun t ht => ?_⟩
    rcases List.mem_cons.1 ht with rfl | ht
    · exact ⟨h1, ⟨b, by rw [tx_len], h2⟩, h3⟩
    · exact t3 t ht
theorem WS_close {w : World} : ∀ {ts : List (Nat × Nat × Nat)}, (∀ t ∈ ts, t.1 < 65536 ∧ TX w (tv t.2.2) (tx t.2.1) ∧ YB t.2.1) → WS w (ts.map (fun t => (t.1, t.2.1))) (fl ts)
  | [], _ => rfl
  | (s, y, b) :: r, h => by
    have h0 := h (s, y, b) (by simp)
    exact ⟨_, _, rfl, h0.1, h0.2.1, h0.2.2, WS_close (fun t ht => h t (by simp [ht]))⟩
set_option maxRecDepth 100000 in
theorem clos79 (a s vb q : Nat) (w : World) (h : w.cell? ⟨q, 0, none⟩ = some (.int .u32 s)) :
    Calls Tryd.prog 57 #[.agg #[.int .u32 a, tv vb], .pointer (some ⟨q, 0, none⟩)] w fun e w' => e = .returned (.bool (decide (a = s))) ∧ Below w.heap.size w w' := by
  have hl := World.block_lt_of_cell? w _ h
  have h1 : (w.alloc (.cells #[.int .u32 a, tv vb] 100)).cell? ⟨q, 0, none⟩ = some (.int .u32 s) := (((Below.refl _ _).alloc (Nat.le_refl _) _).cell (p := ⟨q, 0, none⟩) hl).trans h
  have B : Hid (Below w.heap.size w (w.alloc (.cells #[.int .u32 a, tv vb] 100))) := (Below.refl _ _).alloc (Nat.le_refl _) _
  clear h hl
  by_cases e : a = s
  · subst e
    go_enter Tryd.func57, Tryd.ntmps57
    go_wp2_with fail
    go_ret
    exact ⟨by simp, B.out⟩
  · have e2 : ((a : Int) == (s : Int)) = false := by simp; omega
    have D : Hid (decide (a = s) = false) := by show _ = _; simp [e]
    clear e
    go_enter Tryd.func57, Tryd.ntmps57
    go_wp2_with fail
    go_ret
    exact ⟨by rw [D.out]; simp, B.out⟩
/-- The first write of a sector. -/
def fst? (s : Nat) (ts : List (Nat × Nat × Nat)) : Nat → Prop := fun i => i < ts.length ∧ (∀ t, ts[i]? = some t → t.1 = s) ∧ ∀ j t, j < i → ts[j]? = some t → t.1 ≠ s
set_option maxRecDepth 100000 in
set_option maxHeartbeats 2000000 in
theorem indexF {w : World} {x : Option Addr} {n k q s : Nat} {ts : List (Nat × Nat × Nat)} (h : Rw w 100 2 (.slice x n k) n (fl ts)) (hn : ts.length = n) (hq : w.cell? ⟨q, 0, none⟩ = some (.int .u32 s)) (hs : ∃ t ∈ ts, t.1 = s) :
    Calls Tryd.prog 62 #[.slice x n k, .func (.func 57) #[] #[.pointer (some ⟨q, 0, none⟩)]] w fun e w' => ∃ i : Nat, e = .returned (.int .i64 i) ∧ fst? s ts i ∧ Below w.heap.size w w' := by
  have R := Lib.hid h
  have HQ := Lib.hid hq
  have HS := Lib.hid hs
  have HN := Lib.hid hn
  have hk2 : n ≤ 9223372036854775807 := by obtain ⟨_, _, e, h1, h2⟩ := h.form; injection e with e1 e2 e3; unfold maxLen at h2; omega
  clear h hq hs hn
  go_enter Tryd.func62, Tryd.ntmps62
  go_wp2_with fail
  go_loopg [5, 8] n (fun r _ vi wr => ∃ i : Nat, r + i = n ∧ vi = .int .i64 i ∧ (∀ j t, j < i → ts[j]? = some t → t.1 ≠ s) ∧ Below w.heap.size w wr)
  case atStart => exact ⟨0, by omega, rfl, fun j t h => by omega, Below.refl _ _⟩
  case round =>
    obtain ⟨i, hr, rfl, hne, hbl⟩ := hrel
    have NE := Lib.hid hne
    have BL := Lib.hid hbl
    have HR := Lib.hid hr
    clear hne hbl hr
    by_cases hi : i < n
    · obtain ⟨⟨a, y, vb⟩, ht⟩ : ∃ t, ts[i]? = some t := ⟨_, List.getElem?_eq_getElem (by rw [HN.out]; exact hi)⟩
      have HT := Lib.hid ht
      obtain ⟨b, o, rfl, hc0, _⟩ := Rw.cell R.out (fl_at ht).1
      obtain ⟨b', o', he, hc1, _⟩ := Rw.cell R.out (fl_at ht).2
      simp only [Option.some.injEq, Addr.mk.injEq] at he
      obtain ⟨rfl, rfl, _⟩ := he
      have hbw : b < w.heap.size := World.block_lt_of_cell? w _ hc0
      have hd0 : wr.cell? ⟨b, o + i * 2, none⟩ = some (.int .u32 a) := (BL.out.cell (p := ⟨b, o + i * 2, none⟩) hbw).trans hc0
      have hd1 : wr.cell? ⟨b, o + i * 2 + 1, none⟩ = some (tv vb) := (BL.out.cell (p := ⟨b, o + i * 2 + 1, none⟩) hbw).trans (by rw [Nat.add_assoc]; exact hc1)
      have hq' : wr.cell? ⟨q, 0, none⟩ = some (.int .u32 s) := (BL.out.cell (p := ⟨q, 0, none⟩) (World.block_lt_of_cell? w _ HQ.out)).trans HQ.out
      have C := Lib.hid (clos79 a s vb q wr hq')
      clear hc0 hc1 hbw ht hq'
      by_cases e : a = s
      · have D : Hid (decide (a = s) = true) := by show _ = _; simp [e]
        have E := Lib.hid e
        clear e
        go_wp2_with fail
        refine C.out.mono ?_
        rintro e w' ⟨rfl, hb'⟩
        rw [D.out]
        have B2 := Lib.hid (BL.out.trans (hb'.mono BL.out.size))
        clear hb'
        go_wp2_with fail
        go_ret
        refine ⟨i, rfl, ⟨by rw [HN.out]; exact hi, fun t ht => ?_, NE.out⟩, B2.out⟩
        rw [HT.out] at ht
        injection ht with ht
        rw [← ht]; exact E.out
      · have D : Hid (decide (a = s) = false) := by show _ = _; simp [e]
        have E := Lib.hid e
        clear e
        go_wp2_with fail
        refine C.out.mono ?_
        rintro e w' ⟨rfl, hb'⟩
        rw [D.out]
        have B2 := Lib.hid (BL.out.trans (hb'.mono BL.out.size))
        clear hb'
        go_wp2_with fail
        go_roundg (n - (i + 1))
        case measure => have := HR.out; omega
        case rel =>
          refine ⟨i + 1, by omega, by go_num, fun j t hj ht => ?_, B2.out⟩
          by_cases hji : j < i
          · exact NE.out j t hji ht
          · have : j = i := by omega
            subst this
            rw [HT.out] at ht
            injection ht with ht
            rw [← ht]; exact E.out
    · exfalso
      obtain ⟨t, ht, hts⟩ := HS.out
      obtain ⟨j, hj, rfl⟩ := List.getElem_of_mem ht
      exact NE.out j _ (by have := HN.out; omega) (List.getElem?_eq_getElem hj) hts
end Go.Proofs.YtjdamlmoegippaaDoor.dk
