/-
  Slices of rows in memory; contracts of slices.Equal of keys, of values and of kids. Condition: the slices read as rows, and two rows are compared as they read.
-/
import Derived.Test.YtnifaldgofmciaaNdB
namespace Go.Proofs.Ytnifaldgofmciaa
open Go.RowKit
section
variable {α : Type} (f : α → List Value)
/-- The slice v reads, in w, as rows of so many cells. -/
def ES (e : Nat) (w : World) (v : Value) (xs : List α) : Prop :=
  xs.length ≤ 9223372036854775807 ∧ (∀ x ∈ xs, (f x).length = e) ∧ ∃ x c, v = .slice x xs.length c ∧ ∀ (i : Nat) (y : α), xs[i]? = some y → ∃ b o, x = some ⟨b, o, none⟩ ∧ b < w.heap.size ∧ w.rangeAt b (o + i * e) (f y)
theorem range_below {w w' : World} {b o : Nat} {l : List Value} (h : w.rangeAt b o l) (hl : b < w.heap.size) (hb : Below w.heap.size w w') : w'.rangeAt b o l := fun j v hj => by
  rw [← h j v hj]
  exact hb.cell (p := ⟨b, o + j, none⟩) hl
variable {f}
theorem ES.below {e : Nat} {w w' : World} {v : Value} {xs : List α} (h : ES f e w v xs) (hb : Below w.heap.size w w') : ES f e w' v xs := by
  obtain ⟨h1, h2, x, c, h3, h4⟩ := h
  refine ⟨h1, h2, x, c, h3, fun i y hi => ?_⟩
  obtain ⟨b, o, e1, e2, e3⟩ := h4 i y hi
  exact ⟨b, o, e1, Nat.lt_of_lt_of_le e2 hb.size, range_below e3 e2 hb⟩
theorem eq_all {xs ys : List α} (hl : xs.length = ys.length) (h : ∀ j, j < xs.length → xs[j]? = ys[j]?) : xs = ys :=
  List.ext_getElem? fun j => by
    by_cases hj : j < xs.length
    · exact h j hj
    · rw [List.getElem?_eq_none (by omega), List.getElem?_eq_none (by omega)]
end
set_option maxRecDepth 100000 in
set_option maxHeartbeats 4000000 in
theorem equalV {α : Type} [DecidableEq α] (f : α → List Value) (v u : Value) (xs ys : List α) (w : World) (hv : ES f 44 w v xs) (hu : ES f 44 w u ys) (hE : ∀ x ∈ xs, ∀ y ∈ ys, ∀ W : World, (Op.equalIn 10000 54 (.agg (f x).toArray) (.agg (f y).toArray)).run Try.prog W = .ok (decide (x = y)) W) :
    Calls Try.prog 35 #[v, u] w fun e w' => e = .returned (.bool (decide (xs = ys))) ∧ Below w.heap.size w w' := by
  obtain ⟨h1, h2, x, c, rfl, h4⟩ := hv
  obtain ⟨_, h2', x', c', rfl, h4'⟩ := hu
  have ISZ : Hid (∀ l : List Value, l.length = 44 → (Try.prog.info? 54).map (·.size) = some l.length) := fun l hl => by
    rw [show (Try.prog.info? 54).map (·.size) = some 44 from by kernel_rfl]
    simp [hl]
  by_cases hne : xs.length = ys.length
  · have HC := Lib.hid h4
    have HC' := Lib.hid h4'
    have HS := Lib.hid h2
    have HS' := Lib.hid h2'
    have HE := Lib.hid hE
    have HEQ := Lib.hid (eq_all hne)
    obtain ⟨n, hn⟩ : ∃ n, n = ys.length := ⟨_, rfl⟩
    rw [hne, ← hn] at HEQ h1
    rw [hne, ← hn]
    have HN := Lib.hid hn
    have HN1 : Hid (n = xs.length) := by show _ = _; omega
    have hni : (n : Int) ≤ 9223372036854775807 := by omega
    clear h1 h2 h2' h4 h4' hE hn hne
    go_enter Try.func35, Try.ntmps35
    go_wp2_with fail
    go_loopw [13] (fun vi wr => ∃ i : Nat, i ≤ n ∧ vi = .int .i64 (i : Int) ∧ (∀ j, j < i → xs[j]? = ys[j]?) ∧ Below w.heap.size w wr) (fun vi _ => n - (intOf vi).toNat)
    case atStart => exact ⟨0, by omega, rfl, fun j h => by omega, Below.refl _ _⟩
    case round =>
      obtain ⟨i, hi, rfl, hall, hbw⟩ := hrel
      have HALL := Lib.hid hall
      have HBW := Lib.hid hbw
      clear hall hbw
      by_cases hlt : i < n
      · have hii : (i : Int) < (n : Int) := by omega
        have HLT := Lib.hid hlt
        have hix : i < xs.length := by have := HN1.out; omega
        have hiy : i < ys.length := by have := HN.out; omega
        have gx : xs[i]? = some xs[i] := List.getElem?_eq_getElem hix
        have gy : ys[i]? = some ys[i] := List.getElem?_eq_getElem hiy
        obtain ⟨b, o, rfl, hlb, hrx⟩ := HC.out i _ gx
        obtain ⟨b', o', rfl, hlb', hry⟩ := HC'.out i _ gy
        have mx := List.getElem_mem hix
        have my := List.getElem_mem hiy
        have NEQ : Hid (xs[i] ≠ ys[i] → xs ≠ ys) := fun h e => h (by subst e; rfl)
        have NAL : Hid (xs[i] = ys[i] → ∀ j, j < i + 1 → xs[j]? = ys[j]?) := fun h j hj => by
          by_cases hji : j < i
          · exact HALL.out j hji
          · have hj' : j = i := by omega
            rw [hj', gx, gy, h]
        obtain ⟨X, hX⟩ : ∃ X, X = xs[i] := ⟨_, rfl⟩
        obtain ⟨Y, hY⟩ : ∃ Y, Y = ys[i] := ⟨_, rfl⟩
        rw [← hX] at mx hrx NEQ NAL
        rw [← hY] at my hry NEQ NAL
        have RX := Lib.hid hrx
        have RY := Lib.hid hry
        have LB := Lib.hid hlb
        have LB' := Lib.hid hlb'
        have IX := Lib.hid (ISZ.out (f X) (HS.out X mx))
        have IY := Lib.hid (ISZ.out (f Y) (HS'.out Y my))
        have EQ0 := Lib.hid (HE.out X mx Y my)
        clear gx gy mx my hrx hry hlb hlb' hix hiy hX hY
        by_cases hxy : X = Y
        · have EQ : Hid (∀ W : World, (Op.equalIn 10000 54 (.agg (f X).toArray) (.agg (f Y).toArray)).run Try.prog W = .ok true W) := fun W => by rw [EQ0.out W, decide_eq_true hxy]
          have NA := Lib.hid (NAL.out hxy)
          clear hxy EQ0 NAL NEQ
          go_wp2_with fail
          refine wp_region_held_drew (S := fun W => Below w.heap.size w W) (by kernel_rfl) HBW.out.drew (fun hS => ?_)
          refine' wpAnyH_take (i := 0) ?h1x0y ?hsx0y ?hfx0y ?hrx0y ?hQx0y (Or.inl ⟨?hwx0y, ?hyx0y⟩) hS ?restx0y
          case h1x0y => (simp only [List.getElem?_toArray, List.getElem?_cons_zero]; rfl)
          case hsx0y | hfx0y | hrx0y => kernel_rfl
          case hQx0y => exact fun _ _ _ h => h
          case hwx0y => rfl
          case hyx0y =>
            intro W hW
            go_simp
            try with_reducible rfl
          simp only [Act.put, List.setIfInBounds_toArray, List.set_cons_succ, List.set_cons_zero]
          refine' wpAnyH_take (i := 1) ?h1x1y ?hsx1y ?hfx1y ?hrx1y ?hQx1y (Or.inl ⟨?hwx1y, ?hyx1y⟩) hS ?restx1y
          case h1x1y => (simp only [List.getElem?_toArray, List.getElem?_cons_succ, List.getElem?_cons_zero]; rfl)
          case hsx1y | hfx1y | hrx1y => kernel_rfl
          case hQx1y => exact fun _ _ _ h => h
          case hwx1y => rfl
          case hyx1y =>
            intro W hW
            go_simp
            try with_reducible rfl
          simp only [Act.put, List.setIfInBounds_toArray, List.set_cons_succ, List.set_cons_zero]
          refine' wpAnyH_take (i := 2) ?h1x2y ?hsx2y ?hfx2y ?hrx2y ?hQx2y (Or.inl ⟨?hwx2y, ?hyx2y⟩) hS ?restx2y
          case h1x2y => (simp only [List.getElem?_toArray, List.getElem?_cons_succ, List.getElem?_cons_zero]; rfl)
          case hsx2y | hfx2y | hrx2y => kernel_rfl
          case hQx2y => exact fun _ _ _ h => h
          case hwx2y => rfl
          case hyx2y =>
            intro W hW
            go_simp
            try with_reducible rfl
          simp only [Act.put, List.setIfInBounds_toArray, List.set_cons_succ, List.set_cons_zero]
          refine' wpAnyH_take (i := 3) ?h1x3y ?hsx3y ?hfx3y ?hrx3y ?hQx3y (yieldsIf_load_mid ?hwx3y 54 (.tmp 18) ?hopx3y b (o + i * 44) rfl (f X) _ (fun W hW => range_below RX.out LB.out hW) Try.underlying54 rfl ?hix3y) hS ?restx3y
          case h1x3y => (simp only [List.getElem?_toArray, List.getElem?_cons_succ, List.getElem?_cons_zero]; rfl)
          case hopx3y => rfl
          case hsx3y | hfx3y | hrx3y => kernel_rfl
          case hQx3y => exact fun _ _ _ h => h
          case hwx3y => rfl
          case hix3y => exact IX.out
          simp only [Act.put, List.setIfInBounds_toArray, List.set_cons_succ, List.set_cons_zero]
          refine' wpAnyH_take (i := 4) ?h1x4y ?hsx4y ?hfx4y ?hrx4y ?hQx4y (Or.inl ⟨?hwx4y, ?hyx4y⟩) hS ?restx4y
          case h1x4y => (simp only [List.getElem?_toArray, List.getElem?_cons_succ, List.getElem?_cons_zero]; rfl)
          case hsx4y | hfx4y | hrx4y => kernel_rfl
          case hQx4y => exact fun _ _ _ h => h
          case hwx4y => rfl
          case hyx4y =>
            intro W hW
            go_simp
            try with_reducible rfl
          simp only [Act.put, List.setIfInBounds_toArray, List.set_cons_succ, List.set_cons_zero]
          refine' wpAnyH_take (i := 5) ?h1x5y ?hsx5y ?hfx5y ?hrx5y ?hQx5y (Or.inl ⟨?hwx5y, ?hyx5y⟩) hS ?restx5y
          case h1x5y => (simp only [List.getElem?_toArray, List.getElem?_cons_succ, List.getElem?_cons_zero]; rfl)
          case hsx5y | hfx5y | hrx5y => kernel_rfl
          case hQx5y => exact fun _ _ _ h => h
          case hwx5y => rfl
          case hyx5y =>
            intro W hW
            go_simp
            try with_reducible rfl
          simp only [Act.put, List.setIfInBounds_toArray, List.set_cons_succ, List.set_cons_zero]
          refine' wpAnyH_take (i := 6) ?h1x6y ?hsx6y ?hfx6y ?hrx6y ?hQx6y (Or.inl ⟨?hwx6y, ?hyx6y⟩) hS ?restx6y
          case h1x6y => (simp only [List.getElem?_toArray, List.getElem?_cons_succ, List.getElem?_cons_zero]; rfl)
          case hsx6y | hfx6y | hrx6y => kernel_rfl
          case hQx6y => exact fun _ _ _ h => h
          case hwx6y => rfl
          case hyx6y =>
            intro W hW
            go_simp
            try with_reducible rfl
          simp only [Act.put, List.setIfInBounds_toArray, List.set_cons_succ, List.set_cons_zero]
          refine' wpAnyH_take (i := 7) ?h1x7y ?hsx7y ?hfx7y ?hrx7y ?hQx7y (yieldsIf_load_mid ?hwx7y 54 (.tmp 22) ?hopx7y b' (o' + i * 44) rfl (f Y) _ (fun W hW => range_below RY.out LB'.out hW) Try.underlying54 rfl ?hix7y) hS ?restx7y
          case h1x7y => (simp only [List.getElem?_toArray, List.getElem?_cons_succ, List.getElem?_cons_zero]; rfl)
          case hopx7y => rfl
          case hsx7y | hfx7y | hrx7y => kernel_rfl
          case hQx7y => exact fun _ _ _ h => h
          case hwx7y => rfl
          case hix7y => exact IY.out
          simp only [Act.put, List.setIfInBounds_toArray, List.set_cons_succ, List.set_cons_zero]
          refine' wpAnyH_take (i := 8) ?h1x8y ?hsx8y ?hfx8y ?hrx8y ?hQx8y (Or.inl ⟨?hwx8y, ?hyx8y⟩) hS ?restx8y
          case h1x8y => (simp only [List.getElem?_toArray, List.getElem?_cons_succ, List.getElem?_cons_zero]; rfl)
          case hsx8y | hfx8y | hrx8y => kernel_rfl
          case hQx8y => exact fun _ _ _ h => h
          case hwx8y => rfl
          case hyx8y =>
            intro W hW
            have eq := EQ.out W
            go_simp
            try with_reducible rfl
          simp only [Act.put, List.setIfInBounds_toArray, List.set_cons_succ, List.set_cons_zero]
          refine wpAnyH_done (by kernel_rfl) ?_ _
          clear hS
          go_wp2_with fail
          go_roundw
          case rel => exact ⟨i + 1, HLT.out, by go_num, NA.out, HBW.out.drew⟩
          case measure => simp [intOf]; have := HLT.out; omega
        · have EQ : Hid (∀ W : World, (Op.equalIn 10000 54 (.agg (f X).toArray) (.agg (f Y).toArray)).run Try.prog W = .ok false W) := fun W => by rw [EQ0.out W, decide_eq_false hxy]
          have FN : Hid (decide (xs = ys) = false) := decide_eq_false (NEQ.out hxy)
          clear hxy EQ0 NAL NEQ
          go_wp2_with fail
          refine wp_region_held_drew (S := fun W => Below w.heap.size w W) (by kernel_rfl) HBW.out.drew (fun hS => ?_)
          refine' wpAnyH_take (i := 0) ?h1x0n ?hsx0n ?hfx0n ?hrx0n ?hQx0n (Or.inl ⟨?hwx0n, ?hyx0n⟩) hS ?restx0n
          case h1x0n => (simp only [List.getElem?_toArray, List.getElem?_cons_zero]; rfl)
          case hsx0n | hfx0n | hrx0n => kernel_rfl
          case hQx0n => exact fun _ _ _ h => h
          case hwx0n => rfl
          case hyx0n =>
            intro W hW
            go_simp
            try with_reducible rfl
          simp only [Act.put, List.setIfInBounds_toArray, List.set_cons_succ, List.set_cons_zero]
          refine' wpAnyH_take (i := 1) ?h1x1n ?hsx1n ?hfx1n ?hrx1n ?hQx1n (Or.inl ⟨?hwx1n, ?hyx1n⟩) hS ?restx1n
          case h1x1n => (simp only [List.getElem?_toArray, List.getElem?_cons_succ, List.getElem?_cons_zero]; rfl)
          case hsx1n | hfx1n | hrx1n => kernel_rfl
          case hQx1n => exact fun _ _ _ h => h
          case hwx1n => rfl
          case hyx1n =>
            intro W hW
            go_simp
            try with_reducible rfl
          simp only [Act.put, List.setIfInBounds_toArray, List.set_cons_succ, List.set_cons_zero]
          refine' wpAnyH_take (i := 2) ?h1x2n ?hsx2n ?hfx2n ?hrx2n ?hQx2n (Or.inl ⟨?hwx2n, ?hyx2n⟩) hS ?restx2n
          case h1x2n => (simp only [List.getElem?_toArray, List.getElem?_cons_succ, List.getElem?_cons_zero]; rfl)
          case hsx2n | hfx2n | hrx2n => kernel_rfl
          case hQx2n => exact fun _ _ _ h => h
          case hwx2n => rfl
          case hyx2n =>
            intro W hW
            go_simp
            try with_reducible rfl
          simp only [Act.put, List.setIfInBounds_toArray, List.set_cons_succ, List.set_cons_zero]
          refine' wpAnyH_take (i := 3) ?h1x3n ?hsx3n ?hfx3n ?hrx3n ?hQx3n (yieldsIf_load_mid ?hwx3n 54 (.tmp 18) ?hopx3n b (o + i * 44) rfl (f X) _ (fun W hW => range_below RX.out LB.out hW) Try.underlying54 rfl ?hix3n) hS ?restx3n
          case h1x3n => (simp only [List.getElem?_toArray, List.getElem?_cons_succ, List.getElem?_cons_zero]; rfl)
          case hopx3n => rfl
          case hsx3n | hfx3n | hrx3n => kernel_rfl
          case hQx3n => exact fun _ _ _ h => h
          case hwx3n => rfl
          case hix3n => exact IX.out
          simp only [Act.put, List.setIfInBounds_toArray, List.set_cons_succ, List.set_cons_zero]
          refine' wpAnyH_take (i := 4) ?h1x4n ?hsx4n ?hfx4n ?hrx4n ?hQx4n (Or.inl ⟨?hwx4n, ?hyx4n⟩) hS ?restx4n
          case h1x4n => (simp only [List.getElem?_toArray, List.getElem?_cons_succ, List.getElem?_cons_zero]; rfl)
          case hsx4n | hfx4n | hrx4n => kernel_rfl
          case hQx4n => exact fun _ _ _ h => h
          case hwx4n => rfl
          case hyx4n =>
            intro W hW
            go_simp
            try with_reducible rfl
          simp only [Act.put, List.setIfInBounds_toArray, List.set_cons_succ, List.set_cons_zero]
          refine' wpAnyH_take (i := 5) ?h1x5n ?hsx5n ?hfx5n ?hrx5n ?hQx5n (Or.inl ⟨?hwx5n, ?hyx5n⟩) hS ?restx5n
          case h1x5n => (simp only [List.getElem?_toArray, List.getElem?_cons_succ, List.getElem?_cons_zero]; rfl)
          case hsx5n | hfx5n | hrx5n => kernel_rfl
          case hQx5n => exact fun _ _ _ h => h
          case hwx5n => rfl
          case hyx5n =>
            intro W hW
            go_simp
            try with_reducible rfl
          simp only [Act.put, List.setIfInBounds_toArray, List.set_cons_succ, List.set_cons_zero]
          refine' wpAnyH_take (i := 6) ?h1x6n ?hsx6n ?hfx6n ?hrx6n ?hQx6n (Or.inl ⟨?hwx6n, ?hyx6n⟩) hS ?restx6n
          case h1x6n => (simp only [List.getElem?_toArray, List.getElem?_cons_succ, List.getElem?_cons_zero]; rfl)
          case hsx6n | hfx6n | hrx6n => kernel_rfl
          case hQx6n => exact fun _ _ _ h => h
          case hwx6n => rfl
          case hyx6n =>
            intro W hW
            go_simp
            try with_reducible rfl
          simp only [Act.put, List.setIfInBounds_toArray, List.set_cons_succ, List.set_cons_zero]
          refine' wpAnyH_take (i := 7) ?h1x7n ?hsx7n ?hfx7n ?hrx7n ?hQx7n (yieldsIf_load_mid ?hwx7n 54 (.tmp 22) ?hopx7n b' (o' + i * 44) rfl (f Y) _ (fun W hW => range_below RY.out LB'.out hW) Try.underlying54 rfl ?hix7n) hS ?restx7n
          case h1x7n => (simp only [List.getElem?_toArray, List.getElem?_cons_succ, List.getElem?_cons_zero]; rfl)
          case hopx7n => rfl
          case hsx7n | hfx7n | hrx7n => kernel_rfl
          case hQx7n => exact fun _ _ _ h => h
          case hwx7n => rfl
          case hix7n => exact IY.out
          simp only [Act.put, List.setIfInBounds_toArray, List.set_cons_succ, List.set_cons_zero]
          refine' wpAnyH_take (i := 8) ?h1x8n ?hsx8n ?hfx8n ?hrx8n ?hQx8n (Or.inl ⟨?hwx8n, ?hyx8n⟩) hS ?restx8n
          case h1x8n => (simp only [List.getElem?_toArray, List.getElem?_cons_succ, List.getElem?_cons_zero]; rfl)
          case hsx8n | hfx8n | hrx8n => kernel_rfl
          case hQx8n => exact fun _ _ _ h => h
          case hwx8n => rfl
          case hyx8n =>
            intro W hW
            have eq := EQ.out W
            go_simp
            try with_reducible rfl
          simp only [Act.put, List.setIfInBounds_toArray, List.set_cons_succ, List.set_cons_zero]
          refine wpAnyH_done (by kernel_rfl) ?_ _
          clear hS
          go_wp2_with fail
          go_ret
          exact ⟨by rw [FN.out]; rfl, HBW.out.drew⟩
      · have hge : ¬ (i : Int) < (n : Int) := by omega
        have FY : Hid (decide (xs = ys) = true) := decide_eq_true (HEQ.out (fun j hj => HALL.out j (by omega)))
        go_wp2_with fail
        go_ret
        exact ⟨by rw [FY.out]; rfl, HBW.out⟩
  · have FN : Hid (decide (xs = ys) = false) := decide_eq_false (fun e => hne (by rw [e]))
    obtain ⟨n, hn⟩ : ∃ n, n = xs.length := ⟨_, rfl⟩
    obtain ⟨m, hm⟩ : ∃ m, m = ys.length := ⟨_, rfl⟩
    rw [← hn, ← hm] at hne
    rw [← hn, ← hm]
    have hnm : ¬ (n : Int) = (m : Int) := by omega
    have hbm : ((n : Int) != (m : Int)) = true := by simpa using hnm
    clear h1 h2 h2' h4 h4' hE hn hm
    go_enter Try.func35, Try.ntmps35
    go_wp2_with fail
    go_ret
    exact ⟨by rw [FN.out]; rfl, Below.refl _ _⟩
set_option maxRecDepth 100000 in
set_option maxHeartbeats 4000000 in
theorem equalK (v u : Value) (xs ys : List Int) (w : World) (hv : KS w v xs) (hu : KS w u ys) :
    Calls Try.prog 34 #[v, u] w fun e w' => e = .returned (.bool (decide (xs = ys))) ∧ Below w.heap.size w w' := by
  obtain ⟨h2, h1, x, c, rfl, h4⟩ := hv
  obtain ⟨h2', _, x', c', rfl, h4'⟩ := hu
  by_cases hne : xs.length = ys.length
  · have HC := Lib.hid h4
    have HC' := Lib.hid h4'
    have HEQ := Lib.hid (eq_all hne)
    obtain ⟨n, hn⟩ : ∃ n, n = ys.length := ⟨_, rfl⟩
    rw [hne, ← hn] at HEQ HC h1
    rw [hne, ← hn]
    rw [← hn] at HC'
    have HN := Lib.hid hn
    have HN1 : Hid (n = xs.length) := by show _ = _; omega
    have hni : (n : Int) ≤ 9223372036854775807 := by omega
    clear h1 h2 h2' h4 h4' hn hne
    go_enter Try.func34, Try.ntmps34
    go_wp2_with fail
    go_loopw [13] (fun vi wr => ∃ i : Nat, i ≤ n ∧ vi = .int .i64 (i : Int) ∧ (∀ j, j < i → xs[j]? = ys[j]?) ∧ Below w.heap.size w wr) (fun vi _ => n - (intOf vi).toNat)
    case atStart => exact ⟨0, by omega, rfl, fun j h => by omega, Below.refl _ _⟩
    case round =>
      obtain ⟨i, hi, rfl, hall, hbw⟩ := hrel
      have HALL := Lib.hid hall
      have HBW := Lib.hid hbw
      clear hall hbw
      by_cases hlt : i < n
      · have hii : (i : Int) < (n : Int) := by omega
        have HLT := Lib.hid hlt
        have hix : i < xs.length := by have := HN1.out; omega
        have hiy : i < ys.length := by have := HN.out; omega
        have gx : xs[i]? = some xs[i] := List.getElem?_eq_getElem hix
        have gy : ys[i]? = some ys[i] := List.getElem?_eq_getElem hiy
        obtain ⟨b, o, rfl, hlb, hrx⟩ := HC.out i hlt
        obtain ⟨b', o', rfl, hlb', hry⟩ := HC'.out i hlt
        have mx := List.getElem_mem hix
        have my := List.getElem_mem hiy
        have NEQ : Hid (xs[i] ≠ ys[i] → xs ≠ ys) := fun h e => h (by subst e; rfl)
        have NAL : Hid (xs[i] = ys[i] → ∀ j, j < i + 1 → xs[j]? = ys[j]?) := fun h j hj => by
          by_cases hji : j < i
          · exact HALL.out j hji
          · have hj' : j = i := by omega
            rw [hj', gx, gy, h]
        have dx : xs.getD i 0 = xs[i] := by simp [List.getD, hix]
        have dy : ys.getD i 0 = ys[i] := by simp [List.getD, hiy]
        rw [dx] at hrx
        rw [dy] at hry
        obtain ⟨X, hX⟩ : ∃ X, X = xs[i] := ⟨_, rfl⟩
        obtain ⟨Y, hY⟩ : ∃ Y, Y = ys[i] := ⟨_, rfl⟩
        rw [← hX] at hrx NEQ NAL
        rw [← hY] at hry NEQ NAL
        have RX := Lib.hid hrx
        have RY := Lib.hid hry
        have LB := Lib.hid hlb
        have LB' := Lib.hid hlb'
        clear gx gy dx dy mx my hrx hry hlb hlb' hix hiy hX hY
        by_cases hxy : X = Y
        · have NA := Lib.hid (NAL.out hxy)
          subst hxy
          clear NAL NEQ
          go_wp2_with fail
          refine wp_region_held_drew (S := fun W => Below w.heap.size w W) (by kernel_rfl) HBW.out.drew (fun hS => ?_)
          refine' wpAnyH_take (i := 0) ?h1x0y ?hsx0y ?hfx0y ?hrx0y ?hQx0y (Or.inl ⟨?hwx0y, ?hyx0y⟩) hS ?restx0y
          case h1x0y => (simp only [List.getElem?_toArray, List.getElem?_cons_zero]; rfl)
          case hsx0y | hfx0y | hrx0y => kernel_rfl
          case hQx0y => exact fun _ _ _ h => h
          case hwx0y => rfl
          case hyx0y =>
            intro W hW
            go_simp
            try with_reducible rfl
          simp only [Act.put, List.setIfInBounds_toArray, List.set_cons_succ, List.set_cons_zero]
          refine' wpAnyH_take (i := 1) ?h1x1y ?hsx1y ?hfx1y ?hrx1y ?hQx1y (Or.inl ⟨?hwx1y, ?hyx1y⟩) hS ?restx1y
          case h1x1y => (simp only [List.getElem?_toArray, List.getElem?_cons_succ, List.getElem?_cons_zero]; rfl)
          case hsx1y | hfx1y | hrx1y => kernel_rfl
          case hQx1y => exact fun _ _ _ h => h
          case hwx1y => rfl
          case hyx1y =>
            intro W hW
            go_simp
            try with_reducible rfl
          simp only [Act.put, List.setIfInBounds_toArray, List.set_cons_succ, List.set_cons_zero]
          refine' wpAnyH_take (i := 2) ?h1x2y ?hsx2y ?hfx2y ?hrx2y ?hQx2y (Or.inl ⟨?hwx2y, ?hyx2y⟩) hS ?restx2y
          case h1x2y => (simp only [List.getElem?_toArray, List.getElem?_cons_succ, List.getElem?_cons_zero]; rfl)
          case hsx2y | hfx2y | hrx2y => kernel_rfl
          case hQx2y => exact fun _ _ _ h => h
          case hwx2y => rfl
          case hyx2y =>
            intro W hW
            go_simp
            try with_reducible rfl
          simp only [Act.put, List.setIfInBounds_toArray, List.set_cons_succ, List.set_cons_zero]
          refine' wpAnyH_take (i := 3) ?h1x3y ?hsx3y ?hfx3y ?hrx3y ?hQx3y (Or.inl ⟨?hwx3y, ?hyx3y⟩) hS ?restx3y
          case h1x3y => (simp only [List.getElem?_toArray, List.getElem?_cons_succ, List.getElem?_cons_zero]; rfl)
          case hsx3y | hfx3y | hrx3y => kernel_rfl
          case hQx3y => exact fun _ _ _ h => h
          case hwx3y => rfl
          case hyx3y =>
            intro W hW
            have cu := (hW.cell (p := ⟨b, o + i, none⟩) LB.out).trans RX.out
            go_simp
            try with_reducible rfl
          simp only [Act.put, List.setIfInBounds_toArray, List.set_cons_succ, List.set_cons_zero]
          refine' wpAnyH_take (i := 4) ?h1x4y ?hsx4y ?hfx4y ?hrx4y ?hQx4y (Or.inl ⟨?hwx4y, ?hyx4y⟩) hS ?restx4y
          case h1x4y => (simp only [List.getElem?_toArray, List.getElem?_cons_succ, List.getElem?_cons_zero]; rfl)
          case hsx4y | hfx4y | hrx4y => kernel_rfl
          case hQx4y => exact fun _ _ _ h => h
          case hwx4y => rfl
          case hyx4y =>
            intro W hW
            go_simp
            try with_reducible rfl
          simp only [Act.put, List.setIfInBounds_toArray, List.set_cons_succ, List.set_cons_zero]
          refine' wpAnyH_take (i := 5) ?h1x5y ?hsx5y ?hfx5y ?hrx5y ?hQx5y (Or.inl ⟨?hwx5y, ?hyx5y⟩) hS ?restx5y
          case h1x5y => (simp only [List.getElem?_toArray, List.getElem?_cons_succ, List.getElem?_cons_zero]; rfl)
          case hsx5y | hfx5y | hrx5y => kernel_rfl
          case hQx5y => exact fun _ _ _ h => h
          case hwx5y => rfl
          case hyx5y =>
            intro W hW
            go_simp
            try with_reducible rfl
          simp only [Act.put, List.setIfInBounds_toArray, List.set_cons_succ, List.set_cons_zero]
          refine' wpAnyH_take (i := 6) ?h1x6y ?hsx6y ?hfx6y ?hrx6y ?hQx6y (Or.inl ⟨?hwx6y, ?hyx6y⟩) hS ?restx6y
          case h1x6y => (simp only [List.getElem?_toArray, List.getElem?_cons_succ, List.getElem?_cons_zero]; rfl)
          case hsx6y | hfx6y | hrx6y => kernel_rfl
          case hQx6y => exact fun _ _ _ h => h
          case hwx6y => rfl
          case hyx6y =>
            intro W hW
            go_simp
            try with_reducible rfl
          simp only [Act.put, List.setIfInBounds_toArray, List.set_cons_succ, List.set_cons_zero]
          refine' wpAnyH_take (i := 7) ?h1x7y ?hsx7y ?hfx7y ?hrx7y ?hQx7y (Or.inl ⟨?hwx7y, ?hyx7y⟩) hS ?restx7y
          case h1x7y => (simp only [List.getElem?_toArray, List.getElem?_cons_succ, List.getElem?_cons_zero]; rfl)
          case hsx7y | hfx7y | hrx7y => kernel_rfl
          case hQx7y => exact fun _ _ _ h => h
          case hwx7y => rfl
          case hyx7y =>
            intro W hW
            have cu := (hW.cell (p := ⟨b', o' + i, none⟩) LB'.out).trans RY.out
            go_simp
            try with_reducible rfl
          simp only [Act.put, List.setIfInBounds_toArray, List.set_cons_succ, List.set_cons_zero]
          refine' wpAnyH_take (i := 8) ?h1x8y ?hsx8y ?hfx8y ?hrx8y ?hQx8y (Or.inl ⟨?hwx8y, ?hyx8y⟩) hS ?restx8y
          case h1x8y => (simp only [List.getElem?_toArray, List.getElem?_cons_succ, List.getElem?_cons_zero]; rfl)
          case hsx8y | hfx8y | hrx8y => kernel_rfl
          case hQx8y => exact fun _ _ _ h => h
          case hwx8y => rfl
          case hyx8y =>
            intro W hW
            go_simp
            try with_reducible rfl
          simp only [Act.put, List.setIfInBounds_toArray, List.set_cons_succ, List.set_cons_zero]
          refine wpAnyH_done (by kernel_rfl) ?_ _
          clear hS
          go_wp2_with fail
          go_roundw
          case rel => exact ⟨i + 1, HLT.out, by go_num, NA.out, HBW.out.drew⟩
          case measure => simp [intOf]; have := HLT.out; omega
        · have NB : Hid ((X != Y) = true) := by show _ = _; simpa using hxy
          have FN : Hid (decide (xs = ys) = false) := decide_eq_false (NEQ.out hxy)
          clear hxy NAL NEQ
          go_wp2_with fail
          refine wp_region_held_drew (S := fun W => Below w.heap.size w W) (by kernel_rfl) HBW.out.drew (fun hS => ?_)
          refine' wpAnyH_take (i := 0) ?h1x0n ?hsx0n ?hfx0n ?hrx0n ?hQx0n (Or.inl ⟨?hwx0n, ?hyx0n⟩) hS ?restx0n
          case h1x0n => (simp only [List.getElem?_toArray, List.getElem?_cons_zero]; rfl)
          case hsx0n | hfx0n | hrx0n => kernel_rfl
          case hQx0n => exact fun _ _ _ h => h
          case hwx0n => rfl
          case hyx0n =>
            intro W hW
            go_simp
            try with_reducible rfl
          simp only [Act.put, List.setIfInBounds_toArray, List.set_cons_succ, List.set_cons_zero]
          refine' wpAnyH_take (i := 1) ?h1x1n ?hsx1n ?hfx1n ?hrx1n ?hQx1n (Or.inl ⟨?hwx1n, ?hyx1n⟩) hS ?restx1n
          case h1x1n => (simp only [List.getElem?_toArray, List.getElem?_cons_succ, List.getElem?_cons_zero]; rfl)
          case hsx1n | hfx1n | hrx1n => kernel_rfl
          case hQx1n => exact fun _ _ _ h => h
          case hwx1n => rfl
          case hyx1n =>
            intro W hW
            go_simp
            try with_reducible rfl
          simp only [Act.put, List.setIfInBounds_toArray, List.set_cons_succ, List.set_cons_zero]
          refine' wpAnyH_take (i := 2) ?h1x2n ?hsx2n ?hfx2n ?hrx2n ?hQx2n (Or.inl ⟨?hwx2n, ?hyx2n⟩) hS ?restx2n
          case h1x2n => (simp only [List.getElem?_toArray, List.getElem?_cons_succ, List.getElem?_cons_zero]; rfl)
          case hsx2n | hfx2n | hrx2n => kernel_rfl
          case hQx2n => exact fun _ _ _ h => h
          case hwx2n => rfl
          case hyx2n =>
            intro W hW
            go_simp
            try with_reducible rfl
          simp only [Act.put, List.setIfInBounds_toArray, List.set_cons_succ, List.set_cons_zero]
          refine' wpAnyH_take (i := 3) ?h1x3n ?hsx3n ?hfx3n ?hrx3n ?hQx3n (Or.inl ⟨?hwx3n, ?hyx3n⟩) hS ?restx3n
          case h1x3n => (simp only [List.getElem?_toArray, List.getElem?_cons_succ, List.getElem?_cons_zero]; rfl)
          case hsx3n | hfx3n | hrx3n => kernel_rfl
          case hQx3n => exact fun _ _ _ h => h
          case hwx3n => rfl
          case hyx3n =>
            intro W hW
            have cu := (hW.cell (p := ⟨b, o + i, none⟩) LB.out).trans RX.out
            go_simp
            try with_reducible rfl
          simp only [Act.put, List.setIfInBounds_toArray, List.set_cons_succ, List.set_cons_zero]
          refine' wpAnyH_take (i := 4) ?h1x4n ?hsx4n ?hfx4n ?hrx4n ?hQx4n (Or.inl ⟨?hwx4n, ?hyx4n⟩) hS ?restx4n
          case h1x4n => (simp only [List.getElem?_toArray, List.getElem?_cons_succ, List.getElem?_cons_zero]; rfl)
          case hsx4n | hfx4n | hrx4n => kernel_rfl
          case hQx4n => exact fun _ _ _ h => h
          case hwx4n => rfl
          case hyx4n =>
            intro W hW
            go_simp
            try with_reducible rfl
          simp only [Act.put, List.setIfInBounds_toArray, List.set_cons_succ, List.set_cons_zero]
          refine' wpAnyH_take (i := 5) ?h1x5n ?hsx5n ?hfx5n ?hrx5n ?hQx5n (Or.inl ⟨?hwx5n, ?hyx5n⟩) hS ?restx5n
          case h1x5n => (simp only [List.getElem?_toArray, List.getElem?_cons_succ, List.getElem?_cons_zero]; rfl)
          case hsx5n | hfx5n | hrx5n => kernel_rfl
          case hQx5n => exact fun _ _ _ h => h
          case hwx5n => rfl
          case hyx5n =>
            intro W hW
            go_simp
            try with_reducible rfl
          simp only [Act.put, List.setIfInBounds_toArray, List.set_cons_succ, List.set_cons_zero]
          refine' wpAnyH_take (i := 6) ?h1x6n ?hsx6n ?hfx6n ?hrx6n ?hQx6n (Or.inl ⟨?hwx6n, ?hyx6n⟩) hS ?restx6n
          case h1x6n => (simp only [List.getElem?_toArray, List.getElem?_cons_succ, List.getElem?_cons_zero]; rfl)
          case hsx6n | hfx6n | hrx6n => kernel_rfl
          case hQx6n => exact fun _ _ _ h => h
          case hwx6n => rfl
          case hyx6n =>
            intro W hW
            go_simp
            try with_reducible rfl
          simp only [Act.put, List.setIfInBounds_toArray, List.set_cons_succ, List.set_cons_zero]
          refine' wpAnyH_take (i := 7) ?h1x7n ?hsx7n ?hfx7n ?hrx7n ?hQx7n (Or.inl ⟨?hwx7n, ?hyx7n⟩) hS ?restx7n
          case h1x7n => (simp only [List.getElem?_toArray, List.getElem?_cons_succ, List.getElem?_cons_zero]; rfl)
          case hsx7n | hfx7n | hrx7n => kernel_rfl
          case hQx7n => exact fun _ _ _ h => h
          case hwx7n => rfl
          case hyx7n =>
            intro W hW
            have cu := (hW.cell (p := ⟨b', o' + i, none⟩) LB'.out).trans RY.out
            go_simp
            try with_reducible rfl
          simp only [Act.put, List.setIfInBounds_toArray, List.set_cons_succ, List.set_cons_zero]
          refine' wpAnyH_take (i := 8) ?h1x8n ?hsx8n ?hfx8n ?hrx8n ?hQx8n (Or.inl ⟨?hwx8n, ?hyx8n⟩) hS ?restx8n
          case h1x8n => (simp only [List.getElem?_toArray, List.getElem?_cons_succ, List.getElem?_cons_zero]; rfl)
          case hsx8n | hfx8n | hrx8n => kernel_rfl
          case hQx8n => exact fun _ _ _ h => h
          case hwx8n => rfl
          case hyx8n =>
            intro W hW
            have nb := NB.out
            go_simp
            try with_reducible rfl
          simp only [Act.put, List.setIfInBounds_toArray, List.set_cons_succ, List.set_cons_zero]
          refine wpAnyH_done (by kernel_rfl) ?_ _
          clear hS
          go_wp2_with fail
          go_ret
          exact ⟨by rw [FN.out]; rfl, HBW.out.drew⟩
      · have hge : ¬ (i : Int) < (n : Int) := by omega
        have FY : Hid (decide (xs = ys) = true) := decide_eq_true (HEQ.out (fun j hj => HALL.out j (by omega)))
        go_wp2_with fail
        go_ret
        exact ⟨by rw [FY.out]; rfl, HBW.out⟩
  · have FN : Hid (decide (xs = ys) = false) := decide_eq_false (fun e => hne (by rw [e]))
    obtain ⟨n, hn⟩ : ∃ n, n = xs.length := ⟨_, rfl⟩
    obtain ⟨m, hm⟩ : ∃ m, m = ys.length := ⟨_, rfl⟩
    rw [← hn, ← hm] at hne
    rw [← hn, ← hm]
    have hnm : ¬ (n : Int) = (m : Int) := by omega
    have hbm : ((n : Int) != (m : Int)) = true := by simpa using hnm
    clear h1 h2 h2' h4 h4' hn hm
    go_enter Try.func34, Try.ntmps34
    go_wp2_with fail
    go_ret
    exact ⟨by rw [FN.out]; rfl, Below.refl _ _⟩
end Go.Proofs.Ytnifaldgofmciaa
