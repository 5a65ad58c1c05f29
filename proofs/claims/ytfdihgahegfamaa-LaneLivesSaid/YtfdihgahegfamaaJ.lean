/-
  Contract of Take of the document's own lanes. Condition: the lanes lie in memory as rows of a row.
-/
import Derived.Test.YtfdihgahegfamaaH
import Derived.StillTailTactics
namespace Go.Proofs.Ytfdihgahegfamaa
open Go.RowKit
section
variable {w : World} {gx n size : Nat} {u : Value} {vs : Nat → Value} {R : Nat → List Int}
set_option maxRecDepth 100000 in
set_option maxHeartbeats 2000000 in
theorem docTake (h : DL w gx n size u vs R) (k : Nat) (hk : k < n) (x : Int) (l : List Int) (he : R k = x :: l) (hl : l.length ≤ 8) : Calls Try.prog 75 #[.pointer (some ⟨gx, 0, none⟩), .int .i64 k] w (DocP w gx n size u vs R k l (.returned (.tuple #[.int .i64 x, .bool true]))) := by
  obtain ⟨b, o, c, hu, hc1, hc2, hc3, _⟩ := h.row hk
  have hrk := h.hr k hk
  rw [he] at hrk
  obtain ⟨y, cv, hv, hv1, hv2⟩ := hrk.form
  rw [hv] at hrk
  obtain ⟨vb, vo, rfl, hcx, _⟩ := hrk.cell (j := 0) (u := .int .i64 x) rfl
  obtain ⟨q1, q2⟩ := hrk.cut (k := 1) (by simp)
  have hlen : (x :: l).length = l.length + 1 := rfl
  rw [hlen] at hv hv1 q1 q2
  obtain ⟨yx, hY⟩ : ∃ yx, yx = (if cv = 1 then some ⟨vb, vo, none⟩ else (some (⟨vb, vo, none⟩ : Addr)).map (·.add (1 * 1))) := ⟨_, rfl⟩
  have hst : ∀ W, _ := fun W => run_tail (P := Try.prog) und29 sz29 (some ⟨vb, vo, none⟩) (l.length + 1) cv 1 (by omega) 1 rfl W
  rw [← hY] at q1 q2 hst
  simp only [Nat.add_sub_cancel] at q1 q2 hst
  have q1' : Rw w 3 1 (.slice yx l.length (cv - 1)) l.length (l.map (Value.int .i64)) := by simpa using q1
  have hd0 : DL w.drew gx n size u vs R := h.below (Below.refl _ _).drew
  obtain ⟨s1, s2, s3, s4, s5⟩ := hd0.set (w1 := w.drew) hk (v' := .slice yx l.length (cv - 1)) (ys := l) q1' (by simp [Value.oneCell']) (Mods.refl _ _) (fun j hj => by rw [q2] at hj; rw [hv]; exact .inl hj) hu
  have K4 : Hid (DocP w gx n size u vs R k l (.returned (.tuple #[.int .i64 x, .bool true])) (.returned (.tuple #[.int .i64 x, .bool true])) (w.drew.setCell ⟨b, o + k, none⟩ (.slice yx l.length (cv - 1)))) := ⟨rfl, _, s3, (Mods.of_below (Below.refl _ _).drew).trans s4 (fun _ hb => .inl hb), s5⟩
  have c0' := h.c0
  rw [hu] at c0'
  rw [hv] at hc3 s1
  have hcx' : w.cell? ⟨vb, vo, none⟩ = some (.int .i64 x) := hcx
  have h3 : ¬ n ≤ k := by omega
  have h4 : ¬ cv < 1 := by omega
  have hz : ((l.length : Int) + 1 == 0) = false := by simp; omega
  have hz2 : decide ((k : Int) < 0) = false := by simp
  unfold maxLen at hc2 hv2
  clear h hrk hcx hv q1 q1' q2 hY hlen hd0 s3 s4 s5 hu he
  go_enter Try.func75, Try.ntmps75
  go_wp2_with fail
  go_still_tail 14, (by kernel_rfl)
  change wpList _ _ _ _ _ w.drew
  go_wp2_with fail
  go_ret2
  exact K4.out
end
end Go.Proofs.Ytfdihgahegfamaa
