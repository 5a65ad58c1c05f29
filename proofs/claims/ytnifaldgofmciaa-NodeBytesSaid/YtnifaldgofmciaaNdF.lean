/-
  Contract of node.Find, where the keys rise. Condition: the value reads as a node.
-/
import Derived.Test.YtnifaldgofmciaaNdE
namespace Go.Proofs.Ytnifaldgofmciaa
open Go.RowKit
theorem rises_lt {ks : List Int} (h : risesB ks = true) {i : Nat} : ∀ {d : Nat}, i + d + 1 < ks.length → ks.getD i 0 < ks.getD (i + d + 1) 0
  | 0, hd => risesB_at h hd
  | d + 1, hd => by
    have h1 := rises_lt h (i := i) (d := d) (by omega)
    have h2 := risesB_at h (j := i + d + 1) (by omega)
    rw [show i + (d + 1) + 1 = i + d + 1 + 1 from by omega]
    omega
theorem rises_le {ks : List Int} (h : risesB ks = true) {i j : Nat} (hij : i < j) (hj : j < ks.length) : ks.getD i 0 < ks.getD j 0 := by
  have := rises_lt h (i := i) (d := j - i - 1) (by omega)
  rw [show i + (j - i - 1) + 1 = j from by omega] at this
  exact this
/-- The place of a key. -/
def FindP (ks : List Int) (key : Int) (i : Nat) (th : Bool) : Prop :=
  i ≤ ks.length ∧ (∀ j, j < i → ks.getD j 0 < key) ∧ (th = true → i < ks.length ∧ ks.getD i 0 = key) ∧ (th = false → ∀ j, i ≤ j → j < ks.length → key < ks.getD j 0)
set_option maxRecDepth 100000 in
set_option maxHeartbeats 8000000 in
theorem findR (v : Value) (n : NV) (key : Int) (w : World) (hv : ND w v n) (hr : risesB n.ks = true) :
    Calls Try.prog 23 #[v, .int .u64 key] w fun e w' => ∃ i th, FindP n.ks key i th ∧ e = .returned (.tuple #[.int .i64 (i : Int), .bool th]) ∧ Below w.heap.size w w' := by
  obtain ⟨K, V, Q, rfl, h1, h2, h3, h4, h5⟩ := hv
  obtain ⟨w1, hw1⟩ : ∃ w1, w1 = w.alloc (.cells #[.bool n.leaf, K, V, Q] 26) := ⟨_, rfl⟩
  have b1 : Below w.heap.size w w1 := by rw [hw1]; exact (Below.refl _ _).alloc (Nat.le_refl _) _
  have e1 : w1.heap[w.heap.size]? = some (.cells #[.bool n.leaf, K, V, Q] 26 (0, 0)) := by rw [hw1]; exact heap_alloc_new w _
  have LG1 : Hid (w.heap.size < w1.heap.size) := (Array.getElem?_eq_some_iff.1 e1).1
  have C1 : Hid (w1.cell? ⟨w.heap.size, 1, none⟩ = some K) := (cell_row e1 1).trans rfl
  have RS := rises K n.ks w1 (h1.below b1)
  rw [hr] at RS
  have RSH := Lib.hid RS
  have HR := Lib.hid (fun i j => @rises_le n.ks hr i j)
  have B1 := Lib.hid b1
  have HW1 := Lib.hid hw1
  obtain ⟨ks, hks⟩ : ∃ ks, ks = n.ks := ⟨_, rfl⟩
  have h1b := h1.below b1
  rw [← hks] at HR h1b ⊢
  obtain ⟨_, hn2, xk, ck, rfl, hrow⟩ := h1b
  obtain ⟨L, hL⟩ : ∃ L, L = ks.length := ⟨_, rfl⟩
  rw [← hL] at hn2 hrow C1 RSH HW1
  rw [← hL]
  have HROW := Lib.hid hrow
  have HL := Lib.hid hL
  have hni : (L : Int) ≤ 9223372036854775807 := by omega
  have c1 := C1.out
  clear h1 h2 h3 h4 h5 b1 e1 hw1 RS hr hks hrow hL hn2
  go_enter Try.func23, Try.ntmps23
  go_wp2_with fail
  rw [← HW1.out]
  go_step3
  go_wp2_with fail
  refine RSH.out.mono ?_
  rintro e w2 ⟨rfl, hb2⟩
  have B2 := Lib.hid hb2
  clear hb2 c1
  go_wp2_with fail
  refine wp_region_held_drew (S := fun W => Below w1.heap.size w1 W) (by kernel_rfl) B2.out.drew (fun hS => ?_)
  refine' wpAnyH_take (i := 0) ?h1x0a ?hsx0a ?hfx0a ?hrx0a ?hQx0a (Or.inl ⟨?hwx0a, ?hyx0a⟩) hS ?restx0a
  case h1x0a => (simp only [List.getElem?_toArray, List.getElem?_cons_zero]; rfl)
  case hsx0a | hfx0a | hrx0a => kernel_rfl
  case hQx0a => exact fun _ _ _ h => h
  case hwx0a => rfl
  case hyx0a =>
    intro W hW
    go_simp
    try with_reducible rfl
  simp only [Act.put, List.setIfInBounds_toArray, List.set_cons_succ, List.set_cons_zero]
  refine' wpAnyH_take (i := 1) ?h1x1a ?hsx1a ?hfx1a ?hrx1a ?hQx1a (Or.inl ⟨?hwx1a, ?hyx1a⟩) hS ?restx1a
  case h1x1a => (simp only [List.getElem?_toArray, List.getElem?_cons_succ, List.getElem?_cons_zero]; rfl)
  case hsx1a | hfx1a | hrx1a => kernel_rfl
  case hQx1a => exact fun _ _ _ h => h
  case hwx1a => rfl
  case hyx1a =>
    intro W hW
    have c1 := (hW.cell (p := ⟨w.heap.size, 1, none⟩) LG1.out).trans C1.out
    go_simp
    try with_reducible rfl
  simp only [Act.put, List.setIfInBounds_toArray, List.set_cons_succ, List.set_cons_zero]
  refine' wpAnyH_take (i := 2) ?h1x2a ?hsx2a ?hfx2a ?hrx2a ?hQx2a (Or.inl ⟨?hwx2a, ?hyx2a⟩) hS ?restx2a
  case h1x2a => (simp only [List.getElem?_toArray, List.getElem?_cons_succ, List.getElem?_cons_zero]; rfl)
  case hsx2a | hfx2a | hrx2a => kernel_rfl
  case hQx2a => exact fun _ _ _ h => h
  case hwx2a => rfl
  case hyx2a =>
    intro W hW
    go_simp
    try with_reducible rfl
  simp only [Act.put, List.setIfInBounds_toArray, List.set_cons_succ, List.set_cons_zero]
  refine' wpAnyH_take (i := 3) ?h1x3a ?hsx3a ?hfx3a ?hrx3a ?hQx3a (Or.inl ⟨?hwx3a, ?hyx3a⟩) hS ?restx3a
  case h1x3a => (simp only [List.getElem?_toArray, List.getElem?_cons_succ, List.getElem?_cons_zero]; rfl)
  case hsx3a | hfx3a | hrx3a => kernel_rfl
  case hQx3a => exact fun _ _ _ h => h
  case hwx3a => rfl
  case hyx3a =>
    intro W hW
    go_simp
    try with_reducible rfl
  simp only [Act.put, List.setIfInBounds_toArray, List.set_cons_succ, List.set_cons_zero]
  refine' wpAnyH_take (i := 4) ?h1x4a ?hsx4a ?hfx4a ?hrx4a ?hQx4a (Or.inl ⟨?hwx4a, ?hyx4a⟩) hS ?restx4a
  case h1x4a => (simp only [List.getElem?_toArray, List.getElem?_cons_succ, List.getElem?_cons_zero]; rfl)
  case hsx4a | hfx4a | hrx4a => kernel_rfl
  case hQx4a => exact fun _ _ _ h => h
  case hwx4a => rfl
  case hyx4a =>
    intro W hW
    go_simp
    try with_reducible rfl
  simp only [Act.put, List.setIfInBounds_toArray, List.set_cons_succ, List.set_cons_zero]
  refine' wpAnyH_take (i := 5) ?h1x5a ?hsx5a ?hfx5a ?hrx5a ?hQx5a (Or.inl ⟨?hwx5a, ?hyx5a⟩) hS ?restx5a
  case h1x5a => (simp only [List.getElem?_toArray, List.getElem?_cons_succ, List.getElem?_cons_zero]; rfl)
  case hsx5a | hfx5a | hrx5a => kernel_rfl
  case hQx5a => exact fun _ _ _ h => h
  case hwx5a => rfl
  case hyx5a =>
    intro W hW
    go_simp
    try with_reducible rfl
  simp only [Act.put, List.setIfInBounds_toArray, List.set_cons_succ, List.set_cons_zero]
  refine wpAnyH_done (by kernel_rfl) ?_ _
  obtain ⟨w3, hw3⟩ : ∃ w3, w3 = w2.drew := ⟨_, rfl⟩
  have B3 : Hid (Below w1.heap.size w1 w3) := by rw [hw3]; exact B2.out.drew
  rw [← hw3]
  clear hS hw3
  have c1 := (B3.out.cell (p := ⟨w.heap.size, 1, none⟩) LG1.out).trans C1.out
  go_wp2_with fail
  go_step3
  go_wp2_with fail
  clear c1
  refine (show Code.wp _ _ _ _ _ from ?_)
  go_loopw [6, 7, 8] (fun v6 v7 v8 wr => ∃ lo hi : Nat, lo ≤ hi ∧ hi ≤ L ∧ v6 = .int .i64 (lo : Int) ∧ v7 = .int .i64 (hi : Int) ∧ v8 = .bool false ∧ (∀ j, j < lo → ks.getD j 0 < key) ∧ (∀ j, hi ≤ j → j < L → key < ks.getD j 0) ∧ wr = w3) (fun v6 v7 _ _ => (intOf v7).toNat - (intOf v6).toNat)
  case atStart => exact ⟨0, L, by omega, by omega, rfl, rfl, rfl, fun j h => by omega, fun j h1 h2 => by omega, by first | exact rfl | trivial⟩
  case round =>
    obtain ⟨lo, hi, hlh, hhL, rfl, rfl, rfl, hlow, hhigh, rfl⟩ := hrel
    have HLOW := Lib.hid hlow
    have HHIGH := Lib.hid hhigh
    clear hlow hhigh
    have c1 := (B3.out.cell (p := ⟨w.heap.size, 1, none⟩) LG1.out).trans C1.out
    by_cases hlt : lo < hi
    · have hii : (lo : Int) < (hi : Int) := by omega
      have hmL : lo + (hi - lo) / 2 < L := by omega
      have hw1' : IntKind.i64.wrap ((hi : Int) - (lo : Int)) = (((hi - lo : Nat)) : Int) := by rw [IntWalk.i64_in _ (by omega)]; omega
      obtain ⟨b, o, rfl, hlb, hc⟩ := HROW.out (lo + (hi - lo) / 2) hmL
      have cu := (B3.out.cell (p := ⟨b, o + (lo + (hi - lo) / 2), none⟩) hlb).trans hc
      clear hc
      obtain ⟨X, hX⟩ : ∃ X, X = ks.getD (lo + (hi - lo) / 2) 0 := ⟨_, rfl⟩
      rw [← hX] at cu
      have LOW : Hid (∀ j, j < lo + (hi - lo) / 2 → ks.getD j 0 < X) := fun j hj => by rw [hX]; exact HR.out j _ hj (by have := HL.out; omega)
      have HIGH : Hid (∀ j, lo + (hi - lo) / 2 ≤ j → j < L → X ≤ ks.getD j 0) := fun j h1 h2 => by
        rw [hX]
        by_cases e : lo + (hi - lo) / 2 = j
        · rw [e]; exact Int.le_refl _
        · exact Int.le_of_lt (HR.out _ j (by omega) (by have := HL.out; omega))
      have HX := Lib.hid hX
      have HLT := Lib.hid hlt
      have HHL := Lib.hid hhL
      clear hX
      by_cases h1 : X < key
      · go_wp2_with fail
        go_roundw
        case rel => exact ⟨lo + (hi - lo) / 2 + 1, hi, by have := HLT.out; omega, HHL.out, by go_num, rfl, rfl, fun j hj => by
          by_cases e : j < lo + (hi - lo) / 2
          · have := LOW.out j e; omega
          · rw [show j = lo + (hi - lo) / 2 from by omega, ← HX.out]; exact h1, HHIGH.out, by first | exact rfl | trivial⟩
        case measure => simp [intOf]; have := HLT.out; omega
      · by_cases h2 : key < X
        · go_wp2_with fail
          go_roundw
          case rel => exact ⟨lo, lo + (hi - lo) / 2, by omega, by have := HLT.out; have := HHL.out; omega, rfl, by go_num, rfl, HLOW.out, fun j h3 h4 => by have := HIGH.out j h3 h4; omega, by first | exact rfl | trivial⟩
          case measure => simp [intOf]; have := HLT.out; omega
        · have he : X = key := by omega
          go_wp2_with fail
          go_ret2
          exact ⟨lo + (hi - lo) / 2, true, ⟨by have := HL.out; have := HLT.out; have := HHL.out; omega, fun j hj => (by have := LOW.out j hj; omega), fun _ => ⟨by have := HL.out; have := HLT.out; have := HHL.out; omega, by rw [← HX.out]; exact he⟩, fun h => (by cases h)⟩, by first | rfl | (congr 3; omega), B1.out.trans (B3.out.mono B1.out.size)⟩
    · have hge : ¬ (lo : Int) < (hi : Int) := by omega
      go_wp2_with fail
      go_ret2
      exact ⟨lo, false, ⟨by have := HL.out; omega, HLOW.out, fun h => (by cases h), fun _ j h1 h2 => HHIGH.out j (by omega) (by have := HL.out; omega)⟩, rfl, B1.out.trans (B3.out.mono B1.out.size)⟩
end Go.Proofs.Ytnifaldgofmciaa
