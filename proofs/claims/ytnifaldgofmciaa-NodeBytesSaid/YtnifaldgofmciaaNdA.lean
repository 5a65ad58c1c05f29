/-
  Nodes in memory: their keys; contract of rises. Condition: the slice reads as keys.
-/
import Derived.Test.YtnifaldgofmciaaProg
import Derived.WalkKit
import Derived.Below
import Derived.Lib.Hide
import Derived.KernelRfl
import Derived.StillTailTactics
import Derived.Deep.RegionHeld
import Derived.Deep.MidRow
import Derived.Deep.QuietTactic
import Derived.BigQuiet
import Derived.IntWalk
import Derived.WalkSpells
namespace Go.Proofs.Ytnifaldgofmciaa
open Go.RowKit
/-- The slice v reads, in w, as keys. -/
def KS (w : World) (v : Value) (ks : List Int) : Prop :=
  (∀ k ∈ ks, 0 ≤ k ∧ k ≤ 18446744073709551615) ∧ ks.length ≤ 9223372036854775807 ∧ ∃ x c, v = .slice x ks.length c ∧ ∀ i, i < ks.length → ∃ b o, x = some ⟨b, o, none⟩ ∧ b < w.heap.size ∧ w.cell? ⟨b, o + i, none⟩ = some (.int .u64 (ks.getD i 0))
theorem KS.below {w w' : World} {v : Value} {ks : List Int} (h : KS w v ks) (hb : Below w.heap.size w w') : KS w' v ks := by
  obtain ⟨h1, h2, x, c, h3, h4⟩ := h
  refine ⟨h1, h2, x, c, h3, fun i hi => ?_⟩
  obtain ⟨b, o, e1, e2, e3⟩ := h4 i hi
  exact ⟨b, o, e1, Nat.lt_of_lt_of_le e2 hb.size, (hb.cell (p := ⟨b, o + i, none⟩) e2).trans e3⟩
/-- Do keys rise? -/
def risesB (ks : List Int) : Bool := (List.range (ks.length - 1)).all fun j => decide (ks.getD j 0 < ks.getD (j + 1) 0)
theorem risesB_yes {ks : List Int} (h : ∀ j, j + 1 < ks.length → ks.getD j 0 < ks.getD (j + 1) 0) : risesB ks = true := by
  unfold risesB
  rw [List.all_eq_true]
  exact fun j hj => decide_eq_true (h j (by have := List.mem_range.1 hj; omega))
theorem risesB_no {ks : List Int} (j : Nat) (hj : j + 1 < ks.length) (h : ks.getD (j + 1) 0 ≤ ks.getD j 0) : risesB ks = false := by
  unfold risesB
  rw [List.all_eq_false]
  exact ⟨j, List.mem_range.2 (by omega), by simp only [decide_eq_true_eq]; omega⟩
theorem risesB_at {ks : List Int} (h : risesB ks = true) {j : Nat} (hj : j + 1 < ks.length) : ks.getD j 0 < ks.getD (j + 1) 0 :=
  of_decide_eq_true (List.all_eq_true.1 h j (List.mem_range.2 (by omega)))
set_option maxRecDepth 100000 in
set_option maxHeartbeats 4000000 in
theorem rises (v : Value) (ks : List Int) (w : World) (hv : KS w v ks) : Calls Try.prog 30 #[v] w fun e w' => e = .returned (.bool (risesB ks)) ∧ Below w.heap.size w w' := by
  obtain ⟨h1, h2, x, c, rfl, h4⟩ := hv
  have HC := Lib.hid h4
  have HYES := Lib.hid (@risesB_yes ks)
  have HNO := Lib.hid (@risesB_no ks)
  obtain ⟨n, hn⟩ : ∃ n, n = ks.length := ⟨_, rfl⟩
  rw [← hn] at HC HYES HNO h2 ⊢
  have HN2 := Lib.hid h2
  have hni : (n : Int) ≤ 9223372036854775807 := by omega
  clear h1 h4 hn h2
  go_enter Try.func30, Try.ntmps30
  go_wp2_with fail
  go_loopw [3] (fun vi wr => ∃ i : Nat, 1 ≤ i ∧ (i ≤ n ∨ i = 1) ∧ vi = .int .i64 (i : Int) ∧ (∀ j, j + 1 < i → ks.getD j 0 < ks.getD (j + 1) 0) ∧ Below w.heap.size w wr) (fun vi _ => n + 1 - (intOf vi).toNat)
  case atStart => exact ⟨1, by omega, by omega, rfl, fun j h => by omega, Below.refl _ _⟩
  case round =>
    obtain ⟨i, h1i, hin, rfl, hall, hbw⟩ := hrel
    have HALL := Lib.hid hall
    have HBW := Lib.hid hbw
    clear hall hbw
    by_cases hlt : i < n
    · have hii : (i : Int) < (n : Int) := by omega
      have HLT := Lib.hid hlt
      obtain ⟨k, hk⟩ : ∃ k, k = i - 1 := ⟨_, rfl⟩
      have hkn : k < n := by omega
      have hkk : (k : Int) < (n : Int) := by omega
      obtain ⟨b, o, rfl, hlb, hci⟩ := HC.out i hlt
      obtain ⟨b', o', hq', _, hck⟩ := HC.out k hkn
      obtain ⟨rfl, rfl⟩ : b = b' ∧ o = o' := by
        simp only [Option.some.injEq, Addr.mk.injEq] at hq'
        exact ⟨hq'.1, hq'.2.1⟩
      clear hq'
      have LB := Lib.hid hlb
      have KI : Hid (i = k + 1) := by show _ = _; omega
      have HWR : Hid (IntKind.i64.wrap ((i : Int) - 1) = (k : Int)) := by
        have := HN2.out
        show _ = _
        rw [IntWalk.i64_in _ (by omega)]
        omega
      obtain ⟨A, hA⟩ : ∃ A, A = ks.getD i 0 := ⟨_, rfl⟩
      obtain ⟨B, hB⟩ : ∃ B, B = ks.getD k 0 := ⟨_, rfl⟩
      rw [← hA] at hci
      rw [← hB] at hck
      have CI := Lib.hid hci
      have CK := Lib.hid hck
      have HA := Lib.hid hA
      have HB := Lib.hid hB
      clear hci hck hA hB hk hlb
      by_cases hle : A ≤ B
      · have FN : Hid (risesB ks = false) := HNO.out k (by have := KI.out; omega) (by rw [← KI.out, ← HA.out, ← HB.out]; exact hle)
        go_wp2_with fail
        refine wp_region_held_drew (S := fun W => Below w.heap.size w W) (by kernel_rfl) HBW.out.drew (fun hS => ?_)
        refine' wpAnyH_take (i := 0) ?h1x0y ?hsx0y ?hfx0y ?hrx0y ?hQx0y (Or.inl ⟨?hwx0y, ?hyx0y⟩) hS ?restx0y
        case h1x0y => (simp only [List.getElem?_toArray, List.getElem?_cons_zero]; rfl)
        case hsx0y | hfx0y | hrx0y => kernel_rfl
        case hQx0y => exact fun _ _ _ h => h
        case hwx0y => rfl
        case hyx0y =>
          intro W hW
          go_simp
          try with_reducible rfl
        simp only [Act.put, List.setIfInBounds_toArray, List.set_cons_succ, List.set_cons_zero]
        refine' wpAnyH_take (i := 1) ?h1x1y ?hsx1y ?hfx1y ?hrx1y ?hQx1y (Or.inl ⟨?hwx1y, ?hyx1y⟩) hS ?restx1y
        case h1x1y => (simp only [List.getElem?_toArray, List.getElem?_cons_succ, List.getElem?_cons_zero]; rfl)
        case hsx1y | hfx1y | hrx1y => kernel_rfl
        case hQx1y => exact fun _ _ _ h => h
        case hwx1y => rfl
        case hyx1y =>
          intro W hW
          go_simp
          try with_reducible rfl
        simp only [Act.put, List.setIfInBounds_toArray, List.set_cons_succ, List.set_cons_zero]
        refine' wpAnyH_take (i := 2) ?h1x2y ?hsx2y ?hfx2y ?hrx2y ?hQx2y (Or.inl ⟨?hwx2y, ?hyx2y⟩) hS ?restx2y
        case h1x2y => (simp only [List.getElem?_toArray, List.getElem?_cons_succ, List.getElem?_cons_zero]; rfl)
        case hsx2y | hfx2y | hrx2y => kernel_rfl
        case hQx2y => exact fun _ _ _ h => h
        case hwx2y => rfl
        case hyx2y =>
          intro W hW
          go_simp
          try with_reducible rfl
        simp only [Act.put, List.setIfInBounds_toArray, List.set_cons_succ, List.set_cons_zero]
        refine' wpAnyH_take (i := 3) ?h1x3y ?hsx3y ?hfx3y ?hrx3y ?hQx3y (Or.inl ⟨?hwx3y, ?hyx3y⟩) hS ?restx3y
        case h1x3y => (simp only [List.getElem?_toArray, List.getElem?_cons_succ, List.getElem?_cons_zero]; rfl)
        case hsx3y | hfx3y | hrx3y => kernel_rfl
        case hQx3y => exact fun _ _ _ h => h
        case hwx3y => rfl
        case hyx3y =>
          intro W hW
          have cu := (hW.cell (p := ⟨b, o + i, none⟩) LB.out).trans CI.out
          go_simp
          try with_reducible rfl
        simp only [Act.put, List.setIfInBounds_toArray, List.set_cons_succ, List.set_cons_zero]
        refine' wpAnyH_take (i := 4) ?h1x4y ?hsx4y ?hfx4y ?hrx4y ?hQx4y (Or.inl ⟨?hwx4y, ?hyx4y⟩) hS ?restx4y
        case h1x4y => (simp only [List.getElem?_toArray, List.getElem?_cons_succ, List.getElem?_cons_zero]; rfl)
        case hsx4y | hfx4y | hrx4y => kernel_rfl
        case hQx4y => exact fun _ _ _ h => h
        case hwx4y => rfl
        case hyx4y =>
          intro W hW
          go_simp
          try with_reducible rfl
        simp only [Act.put, List.setIfInBounds_toArray, List.set_cons_succ, List.set_cons_zero]
        refine' wpAnyH_take (i := 5) ?h1x5y ?hsx5y ?hfx5y ?hrx5y ?hQx5y (Or.inl ⟨?hwx5y, ?hyx5y⟩) hS ?restx5y
        case h1x5y => (simp only [List.getElem?_toArray, List.getElem?_cons_succ, List.getElem?_cons_zero]; rfl)
        case hsx5y | hfx5y | hrx5y => kernel_rfl
        case hQx5y => exact fun _ _ _ h => h
        case hwx5y => rfl
        case hyx5y =>
          intro W hW
          go_simp
          try with_reducible rfl
        simp only [Act.put, List.setIfInBounds_toArray, List.set_cons_succ, List.set_cons_zero]
        refine' wpAnyH_take (i := 6) ?h1x6y ?hsx6y ?hfx6y ?hrx6y ?hQx6y (Or.inl ⟨?hwx6y, ?hyx6y⟩) hS ?restx6y
        case h1x6y => (simp only [List.getElem?_toArray, List.getElem?_cons_succ, List.getElem?_cons_zero]; rfl)
        case hsx6y | hfx6y | hrx6y => kernel_rfl
        case hQx6y => exact fun _ _ _ h => h
        case hwx6y => rfl
        case hyx6y =>
          intro W hW
          go_simp
          try with_reducible rfl
        simp only [Act.put, List.setIfInBounds_toArray, List.set_cons_succ, List.set_cons_zero]
        rw [HWR.out]
        refine' wpAnyH_take (i := 7) ?h1x7y ?hsx7y ?hfx7y ?hrx7y ?hQx7y (Or.inl ⟨?hwx7y, ?hyx7y⟩) hS ?restx7y
        case h1x7y => (simp only [List.getElem?_toArray, List.getElem?_cons_succ, List.getElem?_cons_zero]; rfl)
        case hsx7y | hfx7y | hrx7y => kernel_rfl
        case hQx7y => exact fun _ _ _ h => h
        case hwx7y => rfl
        case hyx7y =>
          intro W hW
          go_simp
          try with_reducible rfl
        simp only [Act.put, List.setIfInBounds_toArray, List.set_cons_succ, List.set_cons_zero]
        refine' wpAnyH_take (i := 8) ?h1x8y ?hsx8y ?hfx8y ?hrx8y ?hQx8y (Or.inl ⟨?hwx8y, ?hyx8y⟩) hS ?restx8y
        case h1x8y => (simp only [List.getElem?_toArray, List.getElem?_cons_succ, List.getElem?_cons_zero]; rfl)
        case hsx8y | hfx8y | hrx8y => kernel_rfl
        case hQx8y => exact fun _ _ _ h => h
        case hwx8y => rfl
        case hyx8y =>
          intro W hW
          have cu := (hW.cell (p := ⟨b, o + k, none⟩) LB.out).trans CK.out
          go_simp
          try with_reducible rfl
        simp only [Act.put, List.setIfInBounds_toArray, List.set_cons_succ, List.set_cons_zero]
        refine' wpAnyH_take (i := 9) ?h1x9y ?hsx9y ?hfx9y ?hrx9y ?hQx9y (Or.inl ⟨?hwx9y, ?hyx9y⟩) hS ?restx9y
        case h1x9y => (simp only [List.getElem?_toArray, List.getElem?_cons_succ, List.getElem?_cons_zero]; rfl)
        case hsx9y | hfx9y | hrx9y => kernel_rfl
        case hQx9y => exact fun _ _ _ h => h
        case hwx9y => rfl
        case hyx9y =>
          intro W hW
          go_simp
          try with_reducible rfl
        simp only [Act.put, List.setIfInBounds_toArray, List.set_cons_succ, List.set_cons_zero]
        refine wpAnyH_done (by kernel_rfl) ?_ _
        clear hS
        go_wp2_with fail
        go_ret
        exact ⟨by rw [FN.out]; rfl, HBW.out.drew⟩
      · have AL : Hid (∀ j, j + 1 < i + 1 → ks.getD j 0 < ks.getD (j + 1) 0) := fun j hj => by
          by_cases hji : j + 1 < i
          · exact HALL.out j hji
          · have hjk : j = k := by have := KI.out; omega
            rw [hjk, ← KI.out, ← HA.out, ← HB.out]
            omega
        go_wp2_with fail
        refine wp_region_held_drew (S := fun W => Below w.heap.size w W) (by kernel_rfl) HBW.out.drew (fun hS => ?_)
        refine' wpAnyH_take (i := 0) ?h1x0n ?hsx0n ?hfx0n ?hrx0n ?hQx0n (Or.inl ⟨?hwx0n, ?hyx0n⟩) hS ?restx0n
        case h1x0n => (simp only [List.getElem?_toArray, List.getElem?_cons_zero]; rfl)
        case hsx0n | hfx0n | hrx0n => kernel_rfl
        case hQx0n => exact fun _ _ _ h => h
        case hwx0n => rfl
        case hyx0n =>
          intro W hW
          go_simp
          try with_reducible rfl
        simp only [Act.put, List.setIfInBounds_toArray, List.set_cons_succ, List.set_cons_zero]
        refine' wpAnyH_take (i := 1) ?h1x1n ?hsx1n ?hfx1n ?hrx1n ?hQx1n (Or.inl ⟨?hwx1n, ?hyx1n⟩) hS ?restx1n
        case h1x1n => (simp only [List.getElem?_toArray, List.getElem?_cons_succ, List.getElem?_cons_zero]; rfl)
        case hsx1n | hfx1n | hrx1n => kernel_rfl
        case hQx1n => exact fun _ _ _ h => h
        case hwx1n => rfl
        case hyx1n =>
          intro W hW
          go_simp
          try with_reducible rfl
        simp only [Act.put, List.setIfInBounds_toArray, List.set_cons_succ, List.set_cons_zero]
        refine' wpAnyH_take (i := 2) ?h1x2n ?hsx2n ?hfx2n ?hrx2n ?hQx2n (Or.inl ⟨?hwx2n, ?hyx2n⟩) hS ?restx2n
        case h1x2n => (simp only [List.getElem?_toArray, List.getElem?_cons_succ, List.getElem?_cons_zero]; rfl)
        case hsx2n | hfx2n | hrx2n => kernel_rfl
        case hQx2n => exact fun _ _ _ h => h
        case hwx2n => rfl
        case hyx2n =>
          intro W hW
          go_simp
          try with_reducible rfl
        simp only [Act.put, List.setIfInBounds_toArray, List.set_cons_succ, List.set_cons_zero]
        refine' wpAnyH_take (i := 3) ?h1x3n ?hsx3n ?hfx3n ?hrx3n ?hQx3n (Or.inl ⟨?hwx3n, ?hyx3n⟩) hS ?restx3n
        case h1x3n => (simp only [List.getElem?_toArray, List.getElem?_cons_succ, List.getElem?_cons_zero]; rfl)
        case hsx3n | hfx3n | hrx3n => kernel_rfl
        case hQx3n => exact fun _ _ _ h => h
        case hwx3n => rfl
        case hyx3n =>
          intro W hW
          have cu := (hW.cell (p := ⟨b, o + i, none⟩) LB.out).trans CI.out
          go_simp
          try with_reducible rfl
        simp only [Act.put, List.setIfInBounds_toArray, List.set_cons_succ, List.set_cons_zero]
        refine' wpAnyH_take (i := 4) ?h1x4n ?hsx4n ?hfx4n ?hrx4n ?hQx4n (Or.inl ⟨?hwx4n, ?hyx4n⟩) hS ?restx4n
        case h1x4n => (simp only [List.getElem?_toArray, List.getElem?_cons_succ, List.getElem?_cons_zero]; rfl)
        case hsx4n | hfx4n | hrx4n => kernel_rfl
        case hQx4n => exact fun _ _ _ h => h
        case hwx4n => rfl
        case hyx4n =>
          intro W hW
          go_simp
          try with_reducible rfl
        simp only [Act.put, List.setIfInBounds_toArray, List.set_cons_succ, List.set_cons_zero]
        refine' wpAnyH_take (i := 5) ?h1x5n ?hsx5n ?hfx5n ?hrx5n ?hQx5n (Or.inl ⟨?hwx5n, ?hyx5n⟩) hS ?restx5n
        case h1x5n => (simp only [List.getElem?_toArray, List.getElem?_cons_succ, List.getElem?_cons_zero]; rfl)
        case hsx5n | hfx5n | hrx5n => kernel_rfl
        case hQx5n => exact fun _ _ _ h => h
        case hwx5n => rfl
        case hyx5n =>
          intro W hW
          go_simp
          try with_reducible rfl
        simp only [Act.put, List.setIfInBounds_toArray, List.set_cons_succ, List.set_cons_zero]
        refine' wpAnyH_take (i := 6) ?h1x6n ?hsx6n ?hfx6n ?hrx6n ?hQx6n (Or.inl ⟨?hwx6n, ?hyx6n⟩) hS ?restx6n
        case h1x6n => (simp only [List.getElem?_toArray, List.getElem?_cons_succ, List.getElem?_cons_zero]; rfl)
        case hsx6n | hfx6n | hrx6n => kernel_rfl
        case hQx6n => exact fun _ _ _ h => h
        case hwx6n => rfl
        case hyx6n =>
          intro W hW
          go_simp
          try with_reducible rfl
        simp only [Act.put, List.setIfInBounds_toArray, List.set_cons_succ, List.set_cons_zero]
        rw [HWR.out]
        refine' wpAnyH_take (i := 7) ?h1x7n ?hsx7n ?hfx7n ?hrx7n ?hQx7n (Or.inl ⟨?hwx7n, ?hyx7n⟩) hS ?restx7n
        case h1x7n => (simp only [List.getElem?_toArray, List.getElem?_cons_succ, List.getElem?_cons_zero]; rfl)
        case hsx7n | hfx7n | hrx7n => kernel_rfl
        case hQx7n => exact fun _ _ _ h => h
        case hwx7n => rfl
        case hyx7n =>
          intro W hW
          go_simp
          try with_reducible rfl
        simp only [Act.put, List.setIfInBounds_toArray, List.set_cons_succ, List.set_cons_zero]
        refine' wpAnyH_take (i := 8) ?h1x8n ?hsx8n ?hfx8n ?hrx8n ?hQx8n (Or.inl ⟨?hwx8n, ?hyx8n⟩) hS ?restx8n
        case h1x8n => (simp only [List.getElem?_toArray, List.getElem?_cons_succ, List.getElem?_cons_zero]; rfl)
        case hsx8n | hfx8n | hrx8n => kernel_rfl
        case hQx8n => exact fun _ _ _ h => h
        case hwx8n => rfl
        case hyx8n =>
          intro W hW
          have cu := (hW.cell (p := ⟨b, o + k, none⟩) LB.out).trans CK.out
          go_simp
          try with_reducible rfl
        simp only [Act.put, List.setIfInBounds_toArray, List.set_cons_succ, List.set_cons_zero]
        refine' wpAnyH_take (i := 9) ?h1x9n ?hsx9n ?hfx9n ?hrx9n ?hQx9n (Or.inl ⟨?hwx9n, ?hyx9n⟩) hS ?restx9n
        case h1x9n => (simp only [List.getElem?_toArray, List.getElem?_cons_succ, List.getElem?_cons_zero]; rfl)
        case hsx9n | hfx9n | hrx9n => kernel_rfl
        case hQx9n => exact fun _ _ _ h => h
        case hwx9n => rfl
        case hyx9n =>
          intro W hW
          go_simp
          try with_reducible rfl
        simp only [Act.put, List.setIfInBounds_toArray, List.set_cons_succ, List.set_cons_zero]
        refine wpAnyH_done (by kernel_rfl) ?_ _
        clear hS
        go_wp2_with fail
        go_roundw
        case rel => exact ⟨i + 1, by omega, .inl HLT.out, by go_num, AL.out, HBW.out.drew⟩
        case measure => simp [intOf]; have := HLT.out; omega
    · have hge : ¬ (i : Int) < (n : Int) := by omega
      have FY : Hid (risesB ks = true) := HYES.out (fun j hj => HALL.out j (by omega))
      go_wp2_with fail
      go_ret
      exact ⟨by rw [FY.out]; rfl, HBW.out⟩
end Go.Proofs.Ytnifaldgofmciaa
