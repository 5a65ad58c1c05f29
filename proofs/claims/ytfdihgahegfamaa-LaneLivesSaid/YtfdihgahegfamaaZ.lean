/-
  The fixed calls of package casematelaw10 (alive) answer true, and leave all that was there. Condition: none.
-/
import Derived.Test.YtfdihgahegfamaaN
namespace Go.Proofs.Ytfdihgahegfamaa
open Go.RowKit Go.Conc
theorem Mods.cs {B c0 n : Nat} {a w w' : World} (h : Below B a w) (k : Mods (CS c0 n) w w') (hB : B ≤ w.heap.size) (hc : B ≤ c0) : Below B a w' :=
  Mods.below h k hB (fun b hb => by have := hb.1; omega)
set_option maxRecDepth 100000 in
set_option maxHeartbeats 4000000 in
theorem alive10 (w : World) : Calls Try.prog 46 #[] w fun e w' => e = .returned (.bool true) ∧ Below w.heap.size w w' := by
  go_enter Try.func46, Try.ntmps46
  go_wp2_with fail
  refine (newT 2 1 (by omega) (by omega) (by omega) (by omega) w).mono ?_
  rintro e w1 ⟨g, ga, c0, rfl, h1, hc, hg, hb⟩
  have H1 := Lib.hid h1
  have B1 := Lib.hid hb
  have HC := Lib.hid hc
  clear h1 hb hg hc
  go_wp2_with fail
  refine (putT H1.out 1 [] rfl (by simp) ⟨#[120]⟩).mono ?_
  rintro e w2 ⟨rfl, h2, hm⟩
  have H2 : Hid (LN 81 121 9 w2 g ga c0 2 1 [[], [.string ⟨#[120]⟩]]) := h2
  have B2 : Hid (Below w.heap.size w w2) := Mods.cs B1.out hm B1.out.size HC.out
  clear h2 hm
  go_wp2_with fail
  refine (putT_full H2.out 1 [.string ⟨#[120]⟩] rfl (by simp) ⟨#[121]⟩).mono ?_
  rintro e w3 ⟨rfl, hb⟩
  have H3 := Lib.hid (H2.out.below hb)
  have B3 : Hid (Below w.heap.size w w3) := B2.out.trans (hb.mono B2.out.size)
  clear hb
  go_wp2_with fail
  refine (putT_arg H3.out (by omega) 2 (by omega) ⟨#[122]⟩).mono ?_
  rintro e w4 ⟨rfl, hb⟩
  have H4 := Lib.hid (H3.out.below hb)
  have B4 : Hid (Below w.heap.size w w4) := B3.out.trans (hb.mono B3.out.size)
  clear hb
  go_wp2_with fail
  refine (nextT H4.out (by omega) (by simp) 0 (by omega) (by omega)).mono ?_
  rintro e w5 hq
  have hr : e = .returned (.tuple #[.int .i64 1, .string ⟨#[120]⟩, .bool true]) ∧ Below w.heap.size w w5 := by
    have l0 : lnr 0 2 0 = 0 := by decide
    have l1 : lnr 0 2 1 = 1 := by decide
    rcases hq with ⟨j, x, l, hj, _, hqj, rfl, _, hm⟩ | ⟨ha, _⟩
    · have hj2 : j = 0 ∨ j = 1 := by omega
      rcases hj2 with rfl | rfl
      · rw [l0] at hqj; simp at hqj
      · rw [l1] at hqj ⊢
        simp at hqj
        obtain ⟨rfl, rfl⟩ := hqj
        exact ⟨rfl, Mods.cs B4.out hm B4.out.size HC.out⟩
    · have := ha 1 (by omega)
      rw [l1] at this; simp at this
  obtain ⟨rfl, hb5⟩ := hr
  have B5 := Lib.hid hb5
  clear hq hb5
  go_wp2_with fail
  refine (newL_no 0 1 (by omega) w5).mono ?_
  rintro e w6 ⟨rfl, rfl⟩
  go_wp2_with fail
  go_ret
  exact ⟨rfl, B5.out⟩
end Go.Proofs.Ytfdihgahegfamaa
