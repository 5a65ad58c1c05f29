/-
  Contracts of the functions that the statements of package aes go through: a block whose columns are multiplied. Condition: the numbers are bytes.
-/
import Derived.Test.YtpkeofioobmmoaaGreatDoorAeAesB
namespace Go.Proofs.YtpkeofioobmmoaaGreatDoor.ae
open Go.RowKit
/-- The sum of the first k products for place i. -/
def acc (F b : List Nat) (i : Nat) : Nat → Nat
  | 0 => 0
  | k + 1 => Nat.xor (acc F b i k) (mul (at_ b (i - i % 4 + (i + k) % 4)) (at_ F k))
theorem acc_lt {F b : List Nat} (hb : Bts 16 b) (i : Nat) : ∀ k, acc F b i k < 256
  | 0 => by show 0 < 256; omega
  | k + 1 => xor_lt (acc_lt hb i k) (mul_lt _ (hb.at_lt _))
theorem acc_four (f0 f1 f2 f3 : Nat) (b : List Nat) (i : Nat) (hi : i < 16) : acc [f0, f1, f2, f3] b i 4 = at_ (mx f0 f1 f2 f3 b) i := by
  rw [mx, tab_at _ _ _ hi]
  show Nat.xor (Nat.xor (Nat.xor (Nat.xor 0 _) _) _) _ = _
  rw [zx]
  rfl
theorem set_at {i : Nat} {R : List Nat} (x : Nat) : (ncells R).setIfInBounds i (.int .u8 (x : Nat)) = ncells (R.set i x) := nset R i x
theorem zeros_at (n i : Nat) : at_ (zeros n) i = 0 := by
  unfold at_ zeros
  rw [List.getD, List.getElem?_replicate]
  split <;> rfl
theorem set_same (i : Nat) (J : List Nat) (hi : i < 16) : (upto i J (zeros 16)).set i 0 = upto i J (zeros 16) := by
  apply List.ext_getElem
  · rw [List.length_set]
  · intro j h1 h2
    rw [List.getElem_set]
    by_cases e : i = j
    · subst e
      rw [if_pos rfl]
      have e1 : (upto i J (zeros 16))[i] = at_ (upto i J (zeros 16)) i := by simp [at_, List.getD, upto_len, hi]
      rw [e1, upto_at hi (Nat.le_refl _), zeros_at]
    · rw [if_neg e]
theorem set_next (i : Nat) (J : List Nat) : (upto i J (zeros 16)).set i (at_ J i) = upto (i + 1) J (zeros 16) := by
  have h := upto_set (i := i) (new := J) (old := zeros 16) (at_ J i) rfl
  rw [nset] at h
  unfold ncells at h
  have h2 := congrArg Array.toList h
  simp only at h2
  have inj : ∀ a b : List Nat, a.map (fun (n : Nat) => Value.int .u8 (n : Int)) = b.map (fun (n : Nat) => Value.int .u8 (n : Int)) → a = b := by
    intro a b hh
    refine List.map_inj_right (f := fun (n : Nat) => Value.int .u8 (n : Int)) ?_ |>.1 hh
    intro x y hxy
    simp only [Value.int.injEq, true_and] at hxy
    omega
  exact inj _ _ h2
set_option maxRecDepth 100000 in
set_option maxHeartbeats 4000000 in
theorem cols (f0 f1 f2 f3 : Nat) (h0 : f0 < 256) (h1 : f1 < 256) (h2 : f2 < 256) (h3 : f3 < 256) (b : List Nat) (hb : Bts 16 b) (gf gs cap : Nat) (w : World) (hcap : w.cell? ⟨gf, 0, none⟩ = some (.slice (some ⟨gs, 0, none⟩) 4 cap))
    (hfc : ∀ k, k < 4 → w.cell? ⟨gs, k, none⟩ = some (.int .u8 (at_ [f0, f1, f2, f3] k : Nat))) :
    Calls Tryz.prog 84 #[.agg (ncells b), .pointer (some ⟨gf, 0, none⟩)] w fun e w' => e = .returned (.agg (ncells (mx f0 f1 f2 f3 b))) ∧ Below w.heap.size w w' := by
  have zz := zero47
  obtain ⟨Z, hZ⟩ : ∃ Z, Z = ncells (zeros 16) := ⟨_, rfl⟩
  rw [← hZ] at zz
  obtain ⟨J, hJ⟩ : ∃ J, J = mx f0 f1 f2 f3 b := ⟨_, rfl⟩
  obtain ⟨F, hF⟩ : ∃ F, F = [f0, f1, f2, f3] := ⟨_, rfl⟩
  have hJl : J.length = 16 := by rw [hJ]; exact (mx_bts _ _ _ _ hb).1
  have IJ := Lib.hid (i47 hJl)
  have ZJ : Hid (Z.size = (ncells J).size) := by show _ = _; rw [hZ]; exact z47 hJl
  have OJ := Lib.hid (none_ J)
  have HBL := Lib.hid hb.1
  have HBT : Hid (∀ i, at_ b i < 256) := hb.at_lt
  have HFT : Hid (∀ k, k < 4 → at_ F k < 256) := fun k hk => by
    rw [hF]
    have : k = 0 ∨ k = 1 ∨ k = 2 ∨ k = 3 := by omega
    rcases this with rfl | rfl | rfl | rfl <;> assumption
  have HAL : Hid (∀ i k, acc F b i k < 256) := acc_lt hb
  have HA4 : Hid (∀ i, i < 16 → acc F b i 4 = at_ J i) := fun i hi => by rw [hF, hJ]; exact acc_four f0 f1 f2 f3 b i hi
  have UZ : Hid (ncells (upto 0 J (zeros 16)) = Z) := by show _ = _; rw [hZ, upto_zero (zeros_len 16)]
  have UA : Hid (upto 16 J (zeros 16) = J) := upto_all hJl
  rw [← hF] at hfc
  have lf := Lib.hid (World.block_lt_of_cell? w _ hcap)
  have ls := Lib.hid (World.block_lt_of_cell? w _ (hfc 0 (by omega)))
  have HCAP := Lib.hid hcap
  have HFC := Lib.hid hfc
  rw [← hJ]
  clear hZ hJ hJl hb hcap hfc hF h0 h1 h2 h3
  go_enter Tryz.func84, Tryz.ntmps84
  go_wp2_with fail
  go_loopw [5, 6, 7, 8, 9] (fun _ _ _ _ vi wr => ∃ i : Nat, i ≤ 16 ∧ vi = .int .i64 i ∧ wr.heap[w.heap.size]? = some (.cells (ncells b) 77 (0, 0)) ∧ wr.heap[w.heap.size + 1]? = some (.cells Z 77 (0, 0)) ∧ wr.heap[w.heap.size + 1 + 1]? = some (.cells (ncells (upto i J (zeros 16))) 77 (0, 0)) ∧ Below w.heap.size w wr) (fun _ _ _ _ vi _ => 16 - (intOf vi).toNat)
  case atStart =>
    refine ⟨0, by omega, rfl, ?_, ?_, ?_, (((Below.refl _ _).alloc (Nat.le_refl _) _).alloc (by simp) _).alloc (by simp; omega) _⟩
    · rw [Below.heap_alloc _ _ _ (by simp; omega), Below.heap_alloc _ _ _ (by simp)]; exact heap_alloc_new w _
    · rw [Below.heap_alloc _ _ _ (by simp)]; exact heap_alloc2_new w _ _
    · rw [UZ.out]
      have := heap_alloc_new ((w.alloc (.cells (ncells b) 77)).alloc (.cells Z 77)) (.cells Z 77)
      simpa using this
  case round =>
    obtain ⟨i, hi, rfl, hg0, hg1, hg2, hbel⟩ := hrel
    by_cases hlt : i < 16
    · obtain ⟨wo, rfl⟩ : ∃ wo : World, wo = wr := ⟨_, rfl⟩
      obtain ⟨top, htop⟩ : ∃ top, top = i - i % 4 := ⟨_, rfl⟩
      have hti : (i : Int) - (i : Int) % 4 = (top : Int) := by omega
      have ccap := (hbel.cell (p := ⟨gf, 0, none⟩) lf.out).trans HCAP.out
      have HT := Lib.hid htop
      have G0 := Lib.hid hg0
      have G1 := Lib.hid hg1
      have G2 : Hid (wo.heap[w.heap.size + 1 + 1]? = some (.cells (ncells ((upto i J (zeros 16)).set i (acc F b i 0))) 77 (0, 0))) := by show _ = _; rw [acc, set_same i J hlt]; exact hg2
      have HB := Lib.hid hbel
      have hi15 : (i : Int) ≤ 15 := by omega
      have hd : decide ((i : Int) < 16) = true := by simp; omega
      have ht15 : (top : Int) ≤ 12 := by omega
      clear hg0 hg1 hg2 hbel htop
      go_wp2_with fail
      clear ccap hti
      go_loopw [7, 8, 18] (fun _ _ vk wr => ∃ k : Nat, k ≤ 4 ∧ vk = .int .i64 k ∧ wr.heap[w.heap.size]? = some (.cells (ncells b) 77 (0, 0)) ∧ wr.heap[w.heap.size + 1]? = some (.cells Z 77 (0, 0)) ∧ wr.heap[w.heap.size + 1 + 1]? = some (.cells (ncells ((upto i J (zeros 16)).set i (acc F b i k))) 77 (0, 0)) ∧ Below w.heap.size w wr) (fun _ _ vk _ => 4 - (intOf vk).toNat)
      case atStart => exact ⟨0, by omega, rfl, G0.out, G1.out, G2.out, HB.out⟩
      case round =>
        clear G0 G1 G2 HB
        obtain ⟨k, hk, rfl, hg0, hg1, hg2, hbel⟩ := hrel
        by_cases hlk : k < 4
        · obtain ⟨c, hc⟩ : ∃ c, c = (i + k) % 4 := ⟨_, rfl⟩
          obtain ⟨r, hr⟩ : ∃ r, r = top + c := ⟨_, rfl⟩
          have hci : ((i : Int) + (k : Int)) % 4 = (c : Int) := by omega
          have hri : (top : Int) + (c : Int) = (r : Int) := by omega
          have hr16 : (r : Int) < 16 := by omega
          have hr0 : (0 : Int) ≤ r := by omega
          have hi16 : (i : Int) < 16 := by omega
          clear hd
          have e1 : IntKind.i64.wrap ((i : Int) + (k : Int)) = (i : Int) + (k : Int) := IntWalk.i64_in _ (by omega)
          have e3 : ((i : Int) + (k : Int)).tmod 4 = (c : Int) := by rw [Int.tmod_eq_emod_of_nonneg (by omega)]; exact hci
          have e4 : IntKind.i64.wrap (r : Int) = (r : Int) := IntWalk.i64_in _ (by omega)
          have hcf := (hbel.cell (p := ⟨gs, k, none⟩) ls.out).trans (HFC.out k hlk)
          have c1 := cell_at hg0 HBL.out (show r < 16 by omega)
          have c2 := cell_at hg2 (by rw [List.length_set, upto_len]) hlt
          have e2 : at_ ((upto i J (zeros 16)).set i (acc F b i k)) i = acc F b i k := by simp [at_, List.getD, upto_len, hlt]
          rw [e2] at c2
          have f2 := frozen_of_row wr (w.heap.size + 1 + 1) i _ 77 hg2
          have GM : Hid (∀ W, Calls Tryz.prog 85 #[.int .u8 (at_ b r : Nat), .int .u8 (at_ F k : Nat)] W fun e w' => e = .returned (.int .u8 (mul (at_ b r) (at_ F k) : Nat)) ∧ w' = W) := fun W => (gmul _ _ (HBT.out r) (HFT.out k hlk) W).mono fun _ _ ⟨a, b⟩ => ⟨a, b.symm⟩
          have hx := xor8 (acc F b i k) (mul (at_ b r) (at_ F k)) (HAL.out i k) (mul_lt _ (HBT.out r))
          have HA : acc F b i (k + 1) = Nat.xor (acc F b i k) (mul (at_ b r) (at_ F k)) := by rw [acc, hr, hc, HT.out]
          rw [← HA] at hx
          have HX := Lib.hid hx
          have US := Lib.hid (set_at (i := i) (R := (upto i J (zeros 16)).set i (acc F b i k)) (acc F b i (k + 1)))
          have US2 : Hid (((upto i J (zeros 16)).set i (acc F b i k)).set i (acc F b i (k + 1)) = (upto i J (zeros 16)).set i (acc F b i (k + 1))) := by show _ = _; rw [List.set_set]
          have G0 := Lib.hid hg0
          have G1 := Lib.hid hg1
          have G2 := Lib.hid hg2
          have HB := Lib.hid hbel
          clear hg0 hg1 hg2 hbel hx HA hc hr e2
          generalize hq : acc F b i (k + 1) = q' at *
          have HQ := Lib.hid hq
          clear hq
          generalize acc F b i k = q at *
          generalize hm : mul (at_ b r) (at_ F k) = m at *
          generalize at_ b r = x at *
          generalize at_ F k = y at *
          clear hm
          go_wp2_with fail
          refine wp_region_still_tail 15 (by kernel_rfl) (by kernel_rfl) ?_
          simp only [List.take_succ_cons, List.take_zero, List.drop_succ_cons, List.drop_zero]
          iterate 12 still_step
          still_call (GM.out _)
          iterate 2 still_step
          refine wpStill_nil ?_
          change wpList _ _ _ _ _ wr.drew
          clear e1 e3 e4 hci hri
          go_wp2_with fail
          rw [HX.out]
          go_roundw
          case rel =>
            have hsetB : Below w.heap.size w (wr.setCell ⟨w.heap.size + 1 + 1, i, none⟩ (.int .u8 (q' : Nat))).drew := (HB.out.setCell (by simp; omega) _).drew
            exact ⟨k + 1, by omega, by go_num, (heap_setCell_other _ _ _ _ (by simp; omega)).trans G0.out, (heap_setCell_other _ _ _ _ (by simp)).trans G1.out, (heap_setCell_same _ _ _ _ _ _ G2.out).trans (by rw [US.out, US2.out, HQ.out]), hsetB⟩
          case measure => simp [intOf]; omega
        · obtain rfl : k = 4 := by omega
          rw [HA4.out i hlt, set_next] at hg2
          have G0 := Lib.hid hg0
          have G1 := Lib.hid hg1
          have G2 := Lib.hid hg2
          have HB := Lib.hid hbel
          clear hg0 hg1 hg2 hbel
          go_wp2_with fail
          go_roundw
          case rel => exact ⟨i + 1, by omega, by go_num, G0.out, G1.out, G2.out, HB.out⟩
          case measure => simp [intOf]; omega
    · obtain rfl : i = 16 := by omega
      rw [UA.out] at hg2
      have G1 := Lib.hid hg1
      have G2 := Lib.hid hg2
      have HB := Lib.hid hbel
      clear hg0 hg1 hg2 hbel
      go_wp2_with (first
        | (refine wpList_load_row rfl 77 (.tmp 4) rfl (w.heap.size + 1 + 1) rfl 77 (ncells J) (0, 0) _ G2.out Tryz.underlying77 rfl IJ.out ?_)
        | (refine wpList_store_row rfl 77 (.tmp 3) (.tmp 40) rfl (w.heap.size + 1) (ncells J) rfl rfl 77 Z G1.out IJ.out ZJ.out OJ.out ?_))
      refine bodyPost_ret (v := .agg (ncells J)) (results_cell_row Tryz.results84 _ _ (w.heap.size + 1) 77 _ (0, 0) _ rfl (setRow_heap _ _ _ _ _ _ G1.out) Tryz.underlying77 rfl IJ.out) rfl ⟨rfl, ?_⟩
      exact HB.out.trans (below_row _ _ (by omega))
end Go.Proofs.YtpkeofioobmmoaaGreatDoor.ae
