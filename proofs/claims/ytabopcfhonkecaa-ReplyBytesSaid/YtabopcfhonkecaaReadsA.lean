/-
  Contracts of the functions that the statement OctetReads goes through: the document's reader; Bytes, Rest; a reader that is nil. Condition: the readers are ones that were made, or nil.
-/
import Derived.Test.YtabopcfhonkecaaPutsA
namespace Go.Proofs.Ytabopcfhonkecaa.octetReads
open Go.RowKit
open Go.Proofs.Ytabopcfhonkecaa.octetPuts (number)

/-- Block g is the document's reader. -/
def RX (w : World) (g : Nat) (xs : List Int) (s : Bool) : Prop :=
  Byt xs ∧ ∃ sv, w.heap[g]? = some (.cells #[sv, .bool s] 53 (0, 0)) ∧ ((sv = .slice none 0 0 ∧ xs = []) ∨
    ∃ b o cap, sv = .slice (some ⟨b, o, none⟩) xs.length cap ∧ b ≠ g ∧ xs.length ≤ cap ∧ cap ≤ maxLen ∧ ∀ i, i < xs.length → w.cell? ⟨b, o + i, none⟩ = some (.int .u8 (nth xs i)))

def TakeX (w : World) (g : Nat) (xs : List Int) (s : Bool) (n : Int) (e : Ending) (w' : World) : Prop :=
  ∃ v, e = .returned v ∧ Sees w' v (got xs s n) ∧ RX w' g (rst xs s n) (shrt xs.length s n) ∧ w.grownBy w' (some g)

theorem got_len (xs : List Int) (s : Bool) (n : Int) : (got xs s n).length ≤ xs.length := by
  unfold got
  split
  · simp
  · rw [List.length_take]; omega
theorem got_byt {xs : List Int} (h : Byt xs) (s : Bool) (n : Int) : Byt (got xs s n) := by
  unfold got
  split
  · exact fun _ h => by simp at h
  · exact h.take _

/-- Bytes: a copy of the next ones. -/
def BytesP (w : World) (g : Nat) (xs : List Int) (s : Bool) (n : Int) (e : Ending) (w' : World) : Prop :=
  ∃ q, e = .returned (.slice (some ⟨q, 0, none⟩) (got xs s n).length (got xs s n).length) ∧ Sees w' (.slice (some ⟨q, 0, none⟩) (got xs s n).length (got xs s n).length) (got xs s n) ∧ w.heap.size ≤ q ∧
    RD w' g (rst xs s n) (shrt xs.length s n) ∧ w.grownBy w' (some g)

theorem RD.below {w w' : World} {g : Nat} {xs : List Int} {s : Bool} (h : RD w g xs s) (hb : Below w.heap.size w w') : RD w' g xs s := by
  obtain ⟨h1, b, o, cap, hg, hne, hl, hm, hc⟩ := h
  exact ⟨h1, b, o, cap, (hb.block g (Array.getElem?_eq_some_iff.1 hg).1).trans hg, hne, hl, hm, fun i hi => (hb.cell (World.block_lt_of_cell? w _ (hc i hi))).trans (hc i hi)⟩
theorem RD.lt {w : World} {g : Nat} {xs : List Int} {s : Bool} (h : RD w g xs s) : g < w.heap.size := by
  obtain ⟨_, _, _, _, hg, _⟩ := h
  exact (Array.getElem?_eq_some_iff.1 hg).1
theorem grownBy_trans {a b c : World} {row : Option Nat} (h : a.grownBy b row) (k : b.grownBy c row) : a.grownBy c row :=
  ⟨k.os.trans h.os, k.tape.trans h.tape, k.output.trans h.output, Nat.le_trans h.size k.size, fun i hi hr => (k.block i (Nat.lt_of_lt_of_le hi h.size) hr).trans (h.block i hi hr)⟩

theorem bytes_rd (g : Nat) (xs : List Int) (s : Bool) (n : Int) (hl : xs.length ≤ 2000) (w : World) (h : RD w g xs s) : Calls Try.prog 38 #[.pointer (some ⟨g, 0, none⟩), .int .i64 n] w (BytesP w g xs s n) := by
  have H := Lib.hid h
  clear h
  go_enter Try.func38, Try.ntmps38
  go_wp2_with fail
  refine (take_rd g xs s n _ H.out).mono ?_
  rintro e w1 ⟨v, rfl, hs, _, hr, hg⟩
  obtain ⟨x, c, rfl, h63⟩ := hs.form
  have HS := Lib.hid hs
  have HR := Lib.hid hr
  have HG := Lib.hid hg
  have hgl := got_len xs s n
  clear hs hr hg
  go_wp2_with fail
  refine (filled _ (got xs s n) (got xs s n).length (Nat.le_refl _) (by omega) _ HS.out).mono ?_
  rintro e w2 ⟨rfl, hw⟩
  have HW := Lib.hid hw
  clear hw
  go_wp2_with fail
  go_ret
  have hb : Below w1.heap.size w1 w2 := by rw [← HW.out]; exact (Below.refl _ _).alloc (Nat.le_refl _) _
  refine ⟨w1.heap.size, rfl, ?_, HG.out.size, RD.below HR.out hb, ?_⟩
  · rw [← HW.out, Nat.sub_self]
    have := sees_alloc w1 (got xs s n) HS.out.1 (got xs s n).length (got xs s n).length rfl (Nat.le_refl _) (by unfold maxLen; omega) (List.replicate 0 0)
    exact this
  · rw [← HW.out]
    exact grownBy_trans HG.out (World.grownBy_alloc _ _ _)

theorem bytes_nil (n : Int) (w : World) : Calls Try.prog 38 #[.pointer none, .int .i64 n] w fun e w' => e = .returned (.slice (some ⟨w.heap.size, 0, none⟩) 0 0) ∧ Below w.heap.size w w' := by
  go_enter Try.func38, Try.ntmps38
  go_wp2_with fail
  refine (take_nil n _).mono ?_
  rintro e w1 ⟨rfl, rfl⟩
  go_wp2_with fail
  refine (filled _ [] 0 (by simp) (by decide) _ (sees_nil _)).mono ?_
  rintro e w2 ⟨rfl, hw⟩
  have HW := Lib.hid hw
  clear hw
  go_wp2_with fail
  go_ret
  exact ⟨rfl, by rw [← HW.out]; exact (Below.refl _ _).alloc (Nat.le_refl _) _⟩
end Go.Proofs.Ytabopcfhonkecaa.octetReads
