/-
  Contracts of package disk, as text DB, for texts in blocks of a kind. Condition: the disk lies in memory as said.
-/
import Derived.Test.YtklhnibmpdaioaaPA
namespace Go.Proofs.Ytklhnibmpdaioaa.pv
open Go.RowKit
variable {P : Nat → Prop}
section
variable {w w' : World} {g N sb hb : Nat} {wv : Value} {su : Nat → Option Nat} {ws : List (Nat × Nat)} {rg : List Value} {c p : Int} {d : Bool} {K : Nat}
theorem sizeD (h : DK P w g N sb hb wv su ws rg c p d K) : Calls Try.prog 22 #[.pointer (some ⟨g, 0, none⟩)] w fun e w' => e = .returned (.int .i64 N) ∧ w = w' := by
  have c0 := h.c0
  clear h
  go_enter Try.func22, Try.ntmps22
  go_wp2
  go_ret
  exact ⟨rfl, rfl⟩
theorem waitsD (h : DK P w g N sb hb wv su ws rg c p d K) : Calls Try.prog 18 #[.pointer (some ⟨g, 0, none⟩)] w fun e w' => e = .returned (.int .i64 ws.length) ∧ w = w' := by
  have c3 := h.c3
  obtain ⟨vs, r, _⟩ := h.waits
  obtain ⟨x, k, rfl, _, _⟩ := r.form
  clear h r
  go_enter Try.func18, Try.ntmps18
  go_wp2
  go_ret
  exact ⟨rfl, rfl⟩
theorem callsD (h : DK P w g N sb hb wv su ws rg c p d K) : Calls Try.prog 20 #[.pointer (some ⟨g, 0, none⟩)] w fun e w' => e = .returned (.int .i64 c) ∧ w = w' := by
  have c68 := h.c68
  clear h
  go_enter Try.func20, Try.ntmps20
  go_wp2
  go_ret
  exact ⟨rfl, rfl⟩
theorem downD (h : DK P w g N sb hb wv su ws rg c p d K) : Calls Try.prog 21 #[.pointer (some ⟨g, 0, none⟩)] w fun e w' => e = .returned (.bool d) ∧ w = w' := by
  have c70 := h.c70
  clear h
  go_enter Try.func21, Try.ntmps21
  go_wp2
  go_ret
  exact ⟨rfl, rfl⟩
theorem awakeD (h : DK P w g N sb hb wv su ws rg c p d K) : Calls Try.prog 61 #[.pointer (some ⟨g, 0, none⟩)] w fun e w' => e = .returned (.int .i64 (if d then 30 else 0)) ∧ w = w' := by
  have H := Lib.hid h
  have c70 := h.c70
  have n1 := h.n1
  have hz : ((N : Int) == 0) = false := by simp; omega
  clear h
  cases d
  · go_enter Try.func61, Try.ntmps61
    go_wp2_with (go_at_call 22; refine (sizeD H.out).mono ?_; rintro e w' ⟨rfl, rfl⟩)
    go_ret
    exact ⟨rfl, rfl⟩
  · go_enter Try.func61, Try.ntmps61
    go_wp2_with (go_at_call 22; refine (sizeD H.out).mono ?_; rintro e w' ⟨rfl, rfl⟩)
    go_ret
    exact ⟨rfl, rfl⟩
theorem hasD (h : DK P w g N sb hb wv su ws rg c p d K) (s : Nat) : Calls Try.prog 57 #[.pointer (some ⟨g, 0, none⟩), .int .u32 s] w fun e w' => e = .returned (.int .i64 (if s < N then 0 else 31)) ∧ w = w' := by
  have H := Lib.hid h
  have c0 := h.c0
  have n1 := h.n1
  have n2 := h.n2
  have hz : ((N : Int) == 0) = false := by simp; omega
  clear h
  by_cases hlt : s < N
  · rw [if_pos hlt]
    have h2 : ¬ (N : Int) ≤ (s : Int) := by omega
    go_enter Try.func57, Try.ntmps57
    go_wp2_with (go_at_call 22; refine (sizeD H.out).mono ?_; rintro e w' ⟨rfl, rfl⟩)
    go_ret
    exact ⟨rfl, rfl⟩
  · rw [if_neg hlt]
    have h2 : (N : Int) ≤ (s : Int) := by omega
    go_enter Try.func57, Try.ntmps57
    go_wp2_with (go_at_call 22; refine (sizeD H.out).mono ?_; rintro e w' ⟨rfl, rfl⟩)
    go_ret
    exact ⟨rfl, rfl⟩
/-- A disk of which the plan was asked. -/
def MayP (P : Nat → Prop) (w : World) (g N sb hb : Nat) (wv : Value) (su : Nat → Option Nat) (ws : List (Nat × Nat)) (rg : List Value) (c p : Int) (d : Bool) (K : Nat) (ok : Bool) (e : Ending) (w' : World) : Prop :=
  e = .returned (.bool ok) ∧ DK P w' g N sb hb wv su ws rg c p d K ∧ Mods (fun k => k = g) w w'
set_option maxRecDepth 100000 in
theorem mayD_no (h : DK P w g N sb hb wv su ws rg c 0 d K) : Calls Try.prog 64 #[.pointer (some ⟨g, 0, none⟩)] w (MayP P w g N sb hb wv su ws rg c 0 true K false) := by
  have c69 := h.c69
  have c70 := h.c70
  have f70 := h.fz 70
  have hm : Mods (fun k => k = g) w (w.setCell ⟨g, 70, none⟩ (.bool true)) := Mods.set (S := fun k => k = g) w ⟨g, 70, none⟩ _ rfl
  have hD := h.reset (by rw [row_set h.row, dset_70 h.len]) hm
  have HD := Lib.hid hD
  have HM := Lib.hid hm
  clear h hm hD
  go_enter Try.func64, Try.ntmps64
  go_wp2_with fail
  go_ret
  exact ⟨rfl, HD.out, HM.out⟩
set_option maxRecDepth 100000 in
theorem mayD_free (h : DK P w g N sb hb wv su ws rg c (-1) d K) (hc : 0 ≤ c) (hc2 : c ≤ 1000000) : Calls Try.prog 64 #[.pointer (some ⟨g, 0, none⟩)] w (MayP P w g N sb hb wv su ws rg (c + 1) (-1) d K true) := by
  have c69 := h.c69
  have c68 := h.c68
  have f68 := h.fz 68
  have hm : Mods (fun k => k = g) w (w.setCell ⟨g, 68, none⟩ (.int .i64 (c + 1))) := Mods.set (S := fun k => k = g) w ⟨g, 68, none⟩ _ rfl
  have hD := h.reset (by rw [row_set h.row, dset_68 h.len]) hm
  have HD := Lib.hid hD
  have HM := Lib.hid hm
  clear h hm hD
  go_enter Try.func64, Try.ntmps64
  go_wp2_with fail
  go_ret
  exact ⟨rfl, HD.out, HM.out⟩
set_option maxRecDepth 100000 in
theorem mayD_plan (h : DK P w g N sb hb wv su ws rg c p d K) (hc : 0 ≤ c) (hc2 : c ≤ 1000000) (hp : 1 ≤ p) (hp2 : p ≤ 9223372036854775807) : Calls Try.prog 64 #[.pointer (some ⟨g, 0, none⟩)] w (MayP P w g N sb hb wv su ws rg (c + 1) (p - 1) d K true) := by
  have c69 := h.c69
  have c68 := h.c68
  have f68 := h.fz 68
  have f69 := h.fz 69
  have hm1 : Mods (fun k => k = g) w (w.setCell ⟨g, 69, none⟩ (.int .i64 (p - 1))) := Mods.set (S := fun k => k = g) w ⟨g, 69, none⟩ _ rfl
  have hD1 := h.reset (by rw [row_set h.row, dset_69 h.len]) hm1
  have hm2 : Mods (fun k => k = g) (w.setCell ⟨g, 69, none⟩ (.int .i64 (p - 1))) ((w.setCell ⟨g, 69, none⟩ (.int .i64 (p - 1))).setCell ⟨g, 68, none⟩ (.int .i64 (c + 1))) := Mods.set (S := fun k => k = g) _ ⟨g, 68, none⟩ _ rfl
  have hD := hD1.reset (by rw [row_set hD1.row, dset_68 hD1.len]) hm2
  have HD := Lib.hid hD
  have HM := Lib.hid (hm1.trans hm2 (fun b hb => .inl hb))
  have h0 : (p == 0) = false := by simp; omega
  have h1 : (p == -1) = false := by simp; omega
  have h2 : (p != -1) = true := by simp; omega
  have e68 := hD1.c68
  have g68 := hD1.fz 68
  clear h hm1 hm2 hD hD1
  go_enter Try.func64, Try.ntmps64
  go_wp2_with fail
  go_ret
  exact ⟨rfl, HD.out, HM.out⟩
end
end Go.Proofs.Ytklhnibmpdaioaa.pv
