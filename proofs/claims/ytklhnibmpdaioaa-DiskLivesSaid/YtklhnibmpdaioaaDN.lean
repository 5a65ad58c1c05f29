/-
  What an op of a disk reads as, by value and in a slice. Condition: the type can be read.
-/
import Derived.Test.YtklhnibmpdaioaaDU
namespace Go.Proofs.Ytklhnibmpdaioaa
open Go.ChangeShapes Go.WideShapes Go.ChangeAt Go.RowKit Go.Deep
theorem cells34 : Try.prog.cellsOf 34 = 5 := by kernel_rfl
theorem cells5' : Try.prog.cellsOf 5 = 1 := by kernel_rfl
theorem cells23 : Try.prog.cellsOf 23 = 1 := by kernel_rfl
theorem cells32 : Try.prog.cellsOf 32 = 1 := by kernel_rfl
theorem bounds_u32' {n : Int} (h : (Lit.int .u32 n).wf = true) : 0 ≤ n ∧ n < 4294967296 := by
  simp [Lit.wf, IntKind.min, IntKind.max, IntKind.signed, IntKind.bits] at h
  omega
/-- The cells of an op. -/
def OpV (vs : List Value) : Prop :=
  ∃ (k : Int) (s y : Nat) (n : Int) (x : Option Addr) (l c : Nat), vs = [.int .i64 k, .int .u32 s, .int .u8 y, .int .i64 n, .slice x l c] ∧ s < 4294967296 ∧ y < 256 ∧ (-9223372036854775808 ≤ n ∧ n ≤ 9223372036854775807) ∧ l ≤ maxLen
theorem one_of {l : List Value} (h : l.length = 1) : ∃ v, l = [v] := by
  match l, h with
  | [v], _ => exact ⟨v, rfl⟩
section
variable {H : Type} {enc : TypeId × Value → H} {w : World} {base : Nat} {sp : Nat → Bool} {held : Bool} {n : Nat} {x : DataW H × List MemPlace}
set_option maxRecDepth 100000 in
theorem op_cells {cs : List Value} {fuel : Nat} (hf : DataW.trod enc Try.prog w base sp held fuel 34 cs = some x) : OpV cs := by
  obtain ⟨xs, n, _, _, hl, hlen, hg⟩ := DataW.trod_struct Try.underlying34 hf
  rw [cells34] at hl
  match cs, hl with
  | [v0, v1, v2, v3, v4], _ =>
    match xs, hlen with
    | [y0, y1, y2, y3, y4], _ =>
      have g0 : DataW.trod enc Try.prog w base sp held n 3 [v0] = some y0 := by simpa [cells3] using hg 0 _ rfl
      have g1 : DataW.trod enc Try.prog w base sp held n 23 [v1] = some y1 := by simpa [cells23] using hg 1 _ rfl
      have g2 : DataW.trod enc Try.prog w base sp held n 5 [v2] = some y2 := by simpa [cells5'] using hg 2 _ rfl
      have g3 : DataW.trod enc Try.prog w base sp held n 3 [v3] = some y3 := by simpa [cells3] using hg 3 _ rfl
      have g4 : DataW.trod enc Try.prog w base sp held n 32 [v4] = some y4 := by simpa [cells32] using hg 4 _ rfl
      obtain ⟨z0, e0, _, _⟩ := DataW.trod_int Try.underlying3 g0
      obtain ⟨z1, e1, _, w1⟩ := DataW.trod_int Try.underlying23 g1
      obtain ⟨z2, e2, _, w2⟩ := DataW.trod_int Try.underlying5 g2
      obtain ⟨z3, e3, _, w3⟩ := DataW.trod_int Try.underlying3 g3
      simp only [List.cons.injEq, and_true] at e0 e1 e2 e3
      have b1 := bounds_u32' w1
      have b2 := bounds_u8 w2
      have b3 := bounds_i64 w3
      obtain ⟨s, rfl⟩ : ∃ s : Nat, z1 = s := ⟨z1.toNat, by omega⟩
      obtain ⟨y, rfl⟩ : ∃ y : Nat, z2 = y := ⟨z2.toNat, by omega⟩
      rcases open_slice Try.underlying32 g4 with ⟨hc, _⟩ | ⟨a, len, cap, m, n', D, Pl, hc, _, hl1, hm, _⟩
      · simp only [List.cons.injEq, and_true] at hc
        exact ⟨z0, s, y, z3, none, 0, 0, by rw [e0, e1, e2, e3, hc], by omega, by omega, b3, by simp [maxLen]⟩
      · simp only [List.cons.injEq, and_true] at hc
        exact ⟨z0, s, y, z3, some a, len, cap, by rw [e0, e1, e2, e3, hc], by omega, by omega, b3, Nat.le_trans hl1 hm⟩
end
end Go.Proofs.Ytklhnibmpdaioaa
