/-
  Contracts of a reader's Rest and End, and of the document's Copy. Condition: the slices read as bytes.
-/
import Derived.Test.YtabopcfhonkecaaER
import Derived.Test.YtabopcfhonkecaaRpI
namespace Go.Proofs.Ytabopcfhonkecaa
open Go.RowKit

set_option maxRecDepth 100000 in
theorem rest_rd (g : Nat) (xs : List Int) (s : Bool) (hl : xs.length ≤ 1000000) (w : World) (h : rx.RD w g xs s) : Calls Try.prog 27 #[.pointer (some ⟨g, 0, none⟩)] w (rx.BytesP w g xs s xs.length) := by
  have H := Lib.hid h
  obtain ⟨_, b, o, cap, hg, _, _, _, _⟩ := h
  have c0 : w.cell? ⟨g, 0, none⟩ = some (.slice (some ⟨b, o, none⟩) xs.length cap) := by rw [cell_of_row w g 0 _ _ _ hg]; rfl
  clear hg
  go_enter Try.func27, Try.ntmps27
  go_wp2_with fail
  refine (rx.bytes_rd g xs s xs.length hl _ H.out).mono ?_
  rintro e w1 ⟨q, rfl, h1, h2, h3, h4⟩
  have H1 := Lib.hid h1
  have H3 := Lib.hid h3
  have H4 := Lib.hid h4
  clear h1 h3 h4
  go_wp2_with fail
  go_ret
  exact ⟨q, rfl, H1.out, h2, H3.out, H4.out⟩
set_option maxRecDepth 100000 in
theorem endR (g : Nat) (xs : List Int) (s : Bool) (w : World) (h : rx.RD w g xs s) : Calls Try.prog 28 #[.pointer (some ⟨g, 0, none⟩)] w fun e w' => e = .returned (.int .i64 (endE xs s)) ∧ w = w' := by
  obtain ⟨_, b, o, cap, hg, _, hl, hm, _⟩ := h
  have c0 : w.cell? ⟨g, 0, none⟩ = some (.slice (some ⟨b, o, none⟩) xs.length cap) := by rw [cell_of_row w g 0 _ _ _ hg]; rfl
  have c1 : w.cell? ⟨g, 1, none⟩ = some (.bool s) := by rw [cell_of_row w g 1 _ _ _ hg]; rfl
  clear hg hl hm
  unfold endE
  cases s with
  | true =>
    rw [if_pos rfl]
    go_enter Try.func28, Try.ntmps28
    go_wp2
    go_ret
    exact ⟨rfl, rfl⟩
  | false =>
    rw [if_neg (by simp)]
    cases xs with
    | nil =>
      rw [if_pos rfl]
      go_enter Try.func28, Try.ntmps28
      go_wp2
      go_ret
      exact ⟨rfl, rfl⟩
    | cons x r =>
      rw [if_neg (by simp)]
      have hp : (0 : Int) < ((x :: r).length : Int) := by simp
      have hd : decide (0 < (x :: r).length) = true := by simp
      generalize (x :: r).length = n at *
      go_enter Try.func28, Try.ntmps28
      go_wp2
      go_ret
      exact ⟨rfl, rfl⟩
set_option maxRecDepth 100000 in
theorem copyC (v : Value) (xs : List Int) (w : World) (h : Sees w v xs) (hl : xs.length ≤ 100000) : Calls Try.prog 10 #[v] w (OwnP w xs) := by
  obtain ⟨x, c, w', hr, ho, _, hb⟩ := app (own_nil w w.heap.size) h (by simp; omega) (Nat.le_refl _)
  have e : ([] : List Int).length + xs.length = xs.length := by simp
  rw [e] at hr ho
  have HR := Lib.hid hr
  have PP : Hid (OwnP w xs (.returned (.slice x xs.length c)) w') := ⟨x, c, rfl, by simpa using ho, hb⟩
  clear hr ho hb h
  go_enter Try.func10, Try.ntmps10
  go_wp2_with (at_builtin; refine wpList_app rfl (.tmp 4) (.tmp 5) rfl rfl rfl rfl HR.out ?_)
  go_ret
  exact PP.out
end Go.Proofs.Ytabopcfhonkecaa
