/-
  Contracts of package extent for a field that is nil, or that no call made. Condition: it lies in memory as noughts.
-/
import Derived.Test.YtjgkochbfjlinaaL
namespace Go.Proofs.Ytjgkochbfjlinaa
open Go.RowKit
/-- A field that no call made. -/
def uC : List Value := .pointer none :: tC (fun _ => a0)
structure UF (w : World) (g : Nat) : Prop where
  blk : w.heap[g]? = some (.cells uC.toArray 54 (0, 0))
section
variable {w w' : World} {g : Nat}
theorem UF.lt (h : UF w g) : g < w.heap.size := (Array.getElem?_eq_some_iff.1 h.blk).1
theorem UF.below (h : UF w g) (hb : Below w.heap.size w w') : UF w' g := ⟨(hb.block g h.lt).trans h.blk⟩
theorem UF.heap (h : UF w g) (e : w'.heap = w.heap) : UF w' g := ⟨by rw [e]; exact h.blk⟩
theorem UF.cell (h : UF w g) (k : Nat) : w.cell? ⟨g, k, none⟩ = uC[k]? := by rw [cell_of_row _ _ _ _ _ _ h.blk]; simp
theorem UF.c0 (h : UF w g) : w.cell? ⟨g, 0, none⟩ = some (.pointer none) := by rw [h.cell]; rfl
theorem UF.range (h : UF w g) : w.rangeAt g 1 (tC (fun _ => a0)) := fun j v hv => by
  rw [h.cell, show 1 + j = j + 1 by omega]; exact hv
theorem slack_nil (w : World) : Calls Try.prog 12 #[.pointer none] w fun e w' => e = .returned (.int .i64 0) ∧ w = w' := by
  go_enter Try.func12, Try.ntmps12
  go_wp2
  go_ret
  exact ⟨rfl, rfl⟩
theorem sizeUF (h : UF w g) : Calls Try.prog 14 #[.pointer (some ⟨g, 0, none⟩)] w fun e w' => e = .returned (.int .i64 0) ∧ w = w' := by
  have c0 := h.c0
  clear h
  go_enter Try.func14, Try.ntmps14
  go_wp2_with (go_at_call 38; refine (sizeB_nil _).mono ?_; rintro e w' ⟨rfl, rfl⟩)
  go_ret
  exact ⟨rfl, rfl⟩
theorem timesUF (h : UF w g) (x : Nat) (hx : x < 4294967296) : Calls Try.prog 18 #[.pointer (some ⟨g, 0, none⟩), .int .u32 x] w fun e w' => e = .returned (.int .i64 0) ∧ w = w' := by
  have c0 := h.c0
  clear h
  go_enter Try.func18, Try.ntmps18
  go_wp2_with (go_at_call 40; refine (timesB_nil _ _).mono ?_; rintro e w' ⟨rfl, rfl⟩)
  go_ret
  exact ⟨rfl, rfl⟩
theorem admUF (h : UF w g) (t : Int) : Calls Try.prog 39 #[.pointer (some ⟨g, 0, none⟩), .int .i64 t] w fun e w' => e = .returned (.tuple #[.pointer none, .int .i64 6]) ∧ w = w' := by
  have H := Lib.hid h
  clear h
  go_enter Try.func39, Try.ntmps39
  go_wp2_with (go_at_call 14; refine (sizeUF H.out).mono ?_; rintro e w' ⟨rfl, rfl⟩)
  go_ret2
  exact ⟨rfl, rfl⟩
theorem fitUF (h : UF w g) (t r q : Int) : Calls Try.prog 43 #[.pointer (some ⟨g, 0, none⟩), .int .i64 t, .int .i64 r, .int .i64 q] w fun e w' => e = .returned (.int .i64 6) ∧ w = w' := by
  have H := Lib.hid h
  clear h
  go_enter Try.func43, Try.ntmps43
  go_wp2_with (go_at_call 14; refine (sizeUF H.out).mono ?_; rintro e w' ⟨rfl, rfl⟩)
  go_ret
  exact ⟨rfl, rfl⟩
theorem hasUF (h : UF w g) (x : Int) : Calls Try.prog 44 #[.pointer (some ⟨g, 0, none⟩), .int .u32 x] w fun e w' => e = .returned (.int .i64 6) ∧ w = w' := by
  have H := Lib.hid h
  clear h
  go_enter Try.func44, Try.ntmps44
  go_wp2_with (go_at_call 14; refine (sizeUF H.out).mono ?_; rintro e w' ⟨rfl, rfl⟩)
  go_ret
  exact ⟨rfl, rfl⟩
theorem takeUF (h : UF w g) (t : Int) : Calls Try.prog 19 #[.pointer (some ⟨g, 0, none⟩), .int .i64 t] w fun e w' => e = .returned (.tuple #[.int .u32 0, .int .i64 6]) ∧ w = w' := by
  have H := Lib.hid h
  clear h
  go_enter Try.func19, Try.ntmps19
  go_wp2_with (go_at_call 39; refine (admUF H.out _).mono ?_; rintro e w' ⟨rfl, rfl⟩)
  go_ret2
  exact ⟨rfl, rfl⟩
theorem resizeUF (h : UF w g) (t r q : Int) : Calls Try.prog 21 #[.pointer (some ⟨g, 0, none⟩), .int .i64 t, .int .i64 r, .int .i64 q] w fun e w' => e = .returned (.int .i64 6) ∧ w = w' := by
  have H := Lib.hid h
  clear h
  go_enter Try.func21, Try.ntmps21
  go_wp2_with (go_at_call 43; refine (fitUF H.out _ _ _).mono ?_; rintro e w' ⟨rfl, rfl⟩)
  go_ret
  exact ⟨rfl, rfl⟩
theorem claimUF (h : UF w g) (t x : Int) : Calls Try.prog 23 #[.pointer (some ⟨g, 0, none⟩), .int .i64 t, .int .u32 x] w fun e w' => e = .returned (.int .i64 6) ∧ w = w' := by
  have H := Lib.hid h
  clear h
  go_enter Try.func23, Try.ntmps23
  go_wp2_with (go_at_call 44; refine (hasUF H.out _).mono ?_; rintro e w' ⟨rfl, rfl⟩)
  go_ret
  exact ⟨rfl, rfl⟩
theorem dropUF (h : UF w g) (t x : Int) : Calls Try.prog 25 #[.pointer (some ⟨g, 0, none⟩), .int .i64 t, .int .u32 x] w fun e w' => e = .returned (.int .i64 6) ∧ w = w' := by
  have H := Lib.hid h
  clear h
  go_enter Try.func25, Try.ntmps25
  go_wp2_with (go_at_call 44; refine (hasUF H.out _).mono ?_; rintro e w' ⟨rfl, rfl⟩)
  go_ret
  exact ⟨rfl, rfl⟩
set_option maxRecDepth 100000 in
set_option maxHeartbeats 1000000 in
theorem slackUF (h : UF w g) : Calls Try.prog 12 #[.pointer (some ⟨g, 0, none⟩)] w fun e w' => e = .returned (.int .i64 0) ∧ Below w.heap.size w w' := by
  have H := Lib.hid h
  have RG := Lib.hid h.range
  have I5 := Lib.hid info52
  have HT : Hid (∀ i : Nat, i < 9 → ∀ w, (Instr.index 52 (.agg (tC (fun _ => a0)).toArray) (.int .i64 (i : Int))).run Try.prog w = .ok (.agg #[.bool false, .int .i64 0, .int .i64 0, .int .i64 0]) w) := fun i hi w => idx52 (fun _ => a0) i hi w
  have SH : Hid (∀ w, Calls Try.prog 36 #[.agg #[.bool false, .int .i64 0, .int .i64 0, .int .i64 0]] w fun e w' => e = .returned (.int .i64 0) ∧ Below w.heap.size w w') := fun w => shareF a0 w
  clear h
  obtain ⟨A, hA⟩ : ∃ A, tC (fun _ => a0) = A := ⟨_, rfl⟩
  rw [hA] at HT RG
  have LA : Hid (A.length = 36) := by show _ = _; rw [← hA]; rfl
  clear hA
  go_enter Try.func12, Try.ntmps12
  go_wp2_with (first | (go_at_call 14; refine (sizeUF H.out).mono ?_; rintro e w' ⟨rfl, rfl⟩) | refine wpList_load_mid rfl 52 (.tmp 12) rfl g 1 rfl A _ RG.out Try.underlying52 rfl (by rw [LA.out]; exact I5.out) ?_)
  go_loopg [3, 14] 9 (fun r vl vi wr => ∃ i : Nat, r + i = 9 ∧ vl = .int .i64 0 ∧ vi = .int .i64 i ∧ Below w.heap.size w wr)
  case atStart => exact ⟨0, rfl, rfl, rfl, Below.refl _ _⟩
  case round =>
    obtain ⟨i, hr, rfl, rfl, hb⟩ := hrel
    have B := Lib.hid hb
    have HR := Lib.hid hr
    clear hb
    by_cases hlt : i < 9
    · have hx := HT.out i hlt
      clear hr
      go_wp2_with fail
      refine (SH.out _).mono ?_
      rintro e w2 ⟨rfl, hb2⟩
      have B2 : Hid (Below w.heap.size w w2) := (B.out.alloc B.out.size _).trans (hb2.mono (by have := B.out.size; simp; omega))
      clear hb2
      go_wp2_with fail
      go_roundg (9 - (i + 1))
      case measure => have := HR.out; omega
      case rel => exact ⟨i + 1, by omega, rfl, by go_num, B2.out⟩
    · have HI : Hid (i = 9) := by show _ = _; omega
      clear hr
      go_wp2_with fail
      go_ret
      exact ⟨rfl, B.out⟩
end
end Go.Proofs.Ytjgkochbfjlinaa
