/-
  Contracts of package extent: New, Admit, Remove. Condition: the field lies in memory.
-/
import Derived.Test.YtjdamlmoegippaaDoorExJ
namespace Go.Proofs.YtjdamlmoegippaaDoor.ex
open Go.RowKit
/-- What a change of a field makes. -/
def TF (w : World) (g rb mb wb N : Nat) (f : Nat → Nat) (T : Nat → Acc) (r : Value) (e : Ending) (w' : World) : Prop := e = .returned r ∧ FD w' g rb mb wb N f T ∧ Mods (Ft g mb wb) w w'
theorem inv_new (N : Nat) : Inv N (fun _ => 0) (fun _ => a0) := by
  refine ⟨rfl, fun _ _ => rfl, fun _ => ⟨by decide, by decide, by show (0 : Int) ≤ N; omega⟩, fun _ => ⟨by decide, by decide⟩, ?_, ?_⟩
  · rw [cnt_zero]; rfl
  · show (0 : Int) ≤ N - _
    have : sum9 (fun _ => a0.sh) = 0 := rfl
    rw [this]; omega
/-- A new field. -/
def NewF (w : World) (N : Nat) (e : Ending) (w' : World) : Prop :=
  ∃ g rb mb wb, e = .returned (.tuple #[.pointer (some ⟨g, 0, none⟩), .int .i64 0]) ∧ FD w' g rb mb wb N (fun _ => 0) (fun _ => a0) ∧ w.heap.size ≤ g ∧ w.heap.size ≤ rb ∧ w.heap.size ≤ mb ∧ w.heap.size ≤ wb ∧ Below w.heap.size w w'
theorem newF_rows {w w1 : World} {N rb mb wb : Nat} (h2 : N ≤ 2048) (r : BR w1 rb N mb wb (fun _ => 0)) (k1 : w.heap.size ≤ rb) (k2 : w.heap.size ≤ mb) (k3 : w.heap.size ≤ wb) (hb : Below w.heap.size w w1) :
    NewF w N (.returned (.tuple #[.pointer (some ⟨w1.heap.size, 0, none⟩), .int .i64 0])) (w1.alloc (.cells (fC rb (fun _ => a0)).toArray 84)) :=
  ⟨w1.heap.size, rb, mb, wb, rfl, ⟨heap_alloc_new _ _, r.mods (S := fun _ => False) (Mods.alloc _ _) id id id, h2, inv_new N⟩, hb.size, k1, k2, k3, hb.alloc hb.size _⟩
set_option maxRecDepth 100000 in
theorem newF (N : Nat) (h1 : 1 ≤ N) (h2 : N ≤ 2048) (w : World) : Calls Tryd.prog 27 #[.int .i64 N] w (NewF w N) := by
  have H := Lib.hid (newB N h1 (by omega))
  have HF : Hid (∀ w1 rb mb wb, BR w1 rb N mb wb (fun _ => 0) → w.heap.size ≤ rb → w.heap.size ≤ mb → w.heap.size ≤ wb → Below w.heap.size w w1 → NewF w N (.returned (.tuple #[.pointer (some ⟨w1.heap.size, 0, none⟩), .int .i64 0])) (w1.alloc (.cells (fC rb (fun _ => a0)).toArray 84))) :=
    fun w1 rb mb wb r k1 k2 k3 hb => newF_rows h2 r k1 k2 k3 hb
  have e1 : ¬ (N : Int) < 1 := by omega
  have e2 : ¬ (2048 : Int) < N := by omega
  clear h1 h2
  go_enter Tryd.func27, Tryd.ntmps27
  go_wp2_with fail
  refine (H.out w).mono ?_
  rintro e w1 ⟨g, mb, wb, rfl, r, k1, k2, k3, hb⟩
  have R1 := Lib.hid r
  have B1 := Lib.hid hb
  have HM := Lib.hid (And.intro k1 (And.intro k2 k3))
  clear r hb k1 k2 k3
  go_wp2_with fail
  go_ret2
  exact HF.out _ _ _ _ R1.out HM.out.1 HM.out.2.1 HM.out.2.2 B1.out
section
variable {w w' : World} {g rb mb wb N : Nat} {f : Nat → Nat} {T : Nat → Acc}
/-- May a tenant be admitted? -/
def admC (N : Nat) (T : Nat → Acc) (t : Nat) (r : Int) : Int := if (T t).i = true then 53 else if slack N T < r then 61 else 0
def admT (N : Nat) (T : Nat → Acc) (t : Nat) (r q : Int) : Nat → Acc := if admC N T t r = 0 then updT T t ⟨true, r, q, 0⟩ else T
theorem sl0 (h : FD w g rb mb wb N f T) : 0 ≤ slack N T ∧ slack N T ≤ 2048 := ⟨h.inv.sl, by have := h.inv.slack_le; have := h.n2; omega⟩
theorem admit_no (h : FD w g rb mb wb N f T) (t r q : Int) (hn : ¬ mayL N t r q) : Calls Tryd.prog 31 #[.pointer (some ⟨g, 0, none⟩), .int .i64 t, .int .i64 r, .int .i64 q] w (TF w g rb mb wb N f T (.int .i64 1)) := by
  have H := Lib.hid h
  have HN := Lib.hid (fitF_no h t r q hn)
  clear h hn
  go_enter Tryd.func31, Tryd.ntmps31
  go_wp2_with (go_at_call 52; refine HN.out.mono ?_; rintro e w' ⟨rfl, rfl⟩)
  go_ret
  exact ⟨rfl, H.out, Mods.refl _ _⟩
set_option maxRecDepth 100000 in
set_option maxHeartbeats 1000000 in
theorem admitF (h : FD w g rb mb wb N f T) (n : Nat) (r q : Int) (hn : mayL N n r q) :
    Calls Tryd.prog 31 #[.pointer (some ⟨g, 0, none⟩), .int .i64 n, .int .i64 r, .int .i64 q] w (TF w g rb mb wb N f (admT N T n r q) (.int .i64 (admC N T n r))) := by
  have H := Lib.hid h
  have HN := Lib.hid (fitF h n r q hn)
  have L := Lib.hid hn
  have h9 : (n : Int) < 9 := by unfold mayL at hn; omega
  have hn0 : n < 9 := by omega
  have c := h.at0 n hn0
  have HS := Lib.hid (slackF h)
  have s0 := (sl0 h).1
  have s1 := (sl0 h).2
  have AT : Hid (∀ w1, FD w1 g rb mb wb N f T → ∀ k, w1.frozen? ⟨g, k, none⟩ = false) := fun w1 h k => h.fz k
  by_cases hi : (T n).i = true
  · have e1 : admC N T n r = 53 := if_pos hi
    have e2 : admT N T n r q = T := by unfold admT; rw [e1]; rfl
    rw [e1, e2]
    rw [hi] at c
    clear h hn hi e1 e2 s0 s1
    go_enter Tryd.func31, Tryd.ntmps31
    go_wp2_with (go_at_call 52; refine HN.out.mono ?_; rintro e w' ⟨rfl, rfl⟩)
    go_ret
    exact ⟨rfl, H.out, Mods.refl _ _⟩
  · have hi' : (T n).i = false := by cases hq : (T n).i <;> simp_all
    rw [hi'] at c
    by_cases hs : slack N T < r
    · have e1 : admC N T n r = 61 := by unfold admC; rw [if_neg hi, if_pos hs]
      have e2 : admT N T n r q = T := by unfold admT; rw [e1]; rfl
      rw [e1, e2]
      clear h hn hi e1 e2 hi'
      generalize slack N T = s at *
      go_enter Tryd.func31, Tryd.ntmps31
      go_wp2_with (go_at_call 52; refine HN.out.mono ?_; rintro e w' ⟨rfl, rfl⟩)
      refine HS.out.mono ?_
      rintro e w1 ⟨rfl, hb⟩
      have H1 := Lib.hid (H.out.below hb)
      have B1 := Lib.hid hb
      clear hb
      go_wp2_with fail
      go_ret
      exact ⟨rfl, H1.out, Mods.of_below B1.out⟩
    · have e1 : admC N T n r = 0 := by unfold admC; rw [if_neg hi, if_neg hs]
      have e2 : admT N T n r q = updT T n ⟨true, r, q, 0⟩ := by unfold admT; rw [e1]; rfl
      rw [e1, e2]
      have IV : Hid (Inv N f (updT T n ⟨true, r, q, 0⟩)) := by
        have ho : T n = a0 := h.inv.out n hi'
        unfold mayL at hn
        refine h.inv.set n (by omega) (by omega) _ (fun e => by cases e) ⟨hn.2.2.1, hn.2.2.2.1, hn.2.2.2.2⟩ ⟨Int.le_refl _, by show 0 ≤ q; omega⟩ ?_ ?_
        · rw [ho]; show max r 0 ≤ _ + max 0 0; omega
        · rw [ho]; show (cnt f N : Int) = cnt f N - 0 + 0; omega
      have CE : Hid (∀ w1, FD w1 g rb mb wb N f T → (∃ v, w1.cell? ⟨g, 1 + n * 4, none⟩ = some v) ∧ (∃ v, w1.cell? ⟨g, 1 + n * 4 + 1, none⟩ = some v) ∧ (∃ v, w1.cell? ⟨g, 1 + n * 4 + 2, none⟩ = some v) ∧ (∃ v, w1.cell? ⟨g, 1 + n * 4 + 3, none⟩ = some v)) :=
        fun w1 h1 => ⟨⟨_, h1.at0 n hn0⟩, ⟨_, h1.at1 n hn0⟩, ⟨_, h1.at2 n hn0⟩, ⟨_, h1.at3 n hn0⟩⟩
      clear h hn hi e1 e2 hi'
      generalize slack N T = s at *
      go_enter Tryd.func31, Tryd.ntmps31
      go_wp2_with (go_at_call 52; refine HN.out.mono ?_; rintro e w' ⟨rfl, rfl⟩)
      refine HS.out.mono ?_
      rintro e w1 ⟨rfl, hb⟩
      have H1 := Lib.hid (H.out.below hb)
      have B1 := Lib.hid hb
      have c' := H1.out.at0 n hn0
      have c1' := H1.out.at1 n hn0
      have c2' := H1.out.at2 n hn0
      have c3' := H1.out.at3 n hn0
      have f0' := H1.out.fz (1 + n * 4)
      have f1' := H1.out.fz (1 + n * 4 + 1)
      have f2' := H1.out.fz (1 + n * 4 + 2)
      have f3' := H1.out.fz (1 + n * 4 + 3)
      clear hb
      go_wp2_with fail
      go_ret
      obtain ⟨h5, h6⟩ := H1.out.setA n hn0 ⟨true, r, q, 0⟩ IV.out
      exact ⟨rfl, h5, (Mods.of_below B1.out).trans h6 (fun _ hb => .inl hb)⟩
end
end Go.Proofs.YtjdamlmoegippaaDoor.ex
