/-
  For every byte a the law GfBoxes of package casematelaw04 returns true, and it reads afterwards as before: its box is told, and the byte whose box it is; the tables have all. Condition: none.
-/
import Derived.Test.YtcangpdcdodkdaaY
import Derived.Test.YtcangpdcdodkdaaL
namespace Go.Proofs.Ytcangpdcdodkdaa.gfBoxes
open Go.ChangeShapes Go.WideShapes Go.ChangeAt Go.RowKit

theorem brow_all (a : Nat) (ha : a < 256) : (brow 256).getD a 0 = box a := by
  unfold brow
  rw [List.getD, List.getElem?_map, List.getElem?_range ha]
  exact if_pos ha

set_option maxRecDepth 100000 in
set_option maxHeartbeats 4000000 in
theorem walk (a : Nat) (ha : a < 256) (w : World) :
    Calls Try.prog 4 #[.int .u8 a] w fun e w' => e = .returned (.bool true) ∧ Below w.heap.size w w' := by
  have ua := unb_of ha
  have M1 := Lib.hid (boxed a ha)
  have M2 := Lib.hid (refBox a ha)
  have M3 : Hid (∀ w, Calls Try.prog 28 #[.int .u8 (box a : Nat)] w fun e w' => e = .returned (.int .u8 a) ∧ Below w.heap.size w w') := by
    intro w; have h := unbox (box a) (box_lt ha) w; rw [ua.1] at h; exact h
  clear ua
  have z27 := zero27
  obtain ⟨Z, hZ⟩ : ∃ Z, Z = ncells (zeros 256) := ⟨_, rfl⟩
  rw [← hZ] at z27
  have hzl : Z.size = 256 := by rw [hZ, nsize, zeros_len]
  have BX := boxes
  have hl2 := brow_len 256
  have hl3 := krow_len 256
  have cb := ncell (brow 256) a (by omega)
  rw [brow_all a ha] at cb
  have hbx := box_lt ha
  have ck := ncell (krow 256) (box a) (by omega)
  rw [show (krow 256).getD (box a) 0 = unb (box a) from rfl, (unb_of ha).1] at ck
  obtain ⟨R, hR⟩ : ∃ R, R = brow 256 := ⟨_, rfl⟩
  obtain ⟨S, hS⟩ : ∃ R, R = krow 256 := ⟨_, rfl⟩
  rw [← hR] at hl2 BX cb
  rw [← hS] at hl3 BX ck
  have iR : (Try.prog.info? 27).map (·.size) = some (ncells R).size := by rw [info27, nsize, hl2]
  have iS : (Try.prog.info? 27).map (·.size) = some (ncells S).size := by rw [info27, nsize, hl3]
  have oR := none_ R
  have oS := none_ S
  have zR : Z.size = (ncells R).size := by rw [hzl, nsize, hl2]
  have zS : Z.size = (ncells S).size := by rw [hzl, nsize, hl3]
  obtain ⟨CR, hCR⟩ : ∃ C, C = ncells R := ⟨_, rfl⟩
  obtain ⟨CS, hCS⟩ : ∃ C, C = ncells S := ⟨_, rfl⟩
  rw [← hCR] at iR oR zR BX cb
  rw [← hCS] at iS oS zS BX ck
  have HBX := Lib.hid BX
  have IR := Lib.hid iR
  have OR := Lib.hid oR
  have ZR := Lib.hid zR
  have IS := Lib.hid iS
  have OS := Lib.hid oS
  have ZS := Lib.hid zS
  have CB := Lib.hid cb
  have CK := Lib.hid ck
  clear hZ hzl hl2 hl3 hR hS hCR hCS iR oR zR iS oS zS BX cb ck
  go_enter Try.func4, Try.ntmps4
  go_wp2_with fail
  refine (HBX.out _).mono ?_
  rintro e w1 ⟨rfl, hb⟩
  have B1 := Lib.hid hb
  clear hb
  have g0 : ((w1.alloc (.cells Z 27)).alloc (.cells Z 27)).heap[w1.heap.size]? = some (.cells Z 27 (0, 0)) := by
    rw [Below.heap_alloc _ _ _ (by simp)]; exact heap_alloc_new w1 _
  have g1 : (((w1.alloc (.cells Z 27)).alloc (.cells Z 27)).setRow w1.heap.size CR).heap[w1.heap.size + 1]? = some (.cells Z 27 (0, 0)) := by
    rw [setRow_other _ _ _ _ (by omega)]; exact heap_alloc2_new w1 _ _
  have c1 : ((((w1.alloc (.cells Z 27)).alloc (.cells Z 27)).setRow w1.heap.size CR).setRow (w1.heap.size + 1) CS).cell? ⟨w1.heap.size, a, none⟩ = some (.int .u8 (box a : Nat)) := by
    rw [cell_setRow_other _ _ _ _ (by simp)]
    exact (cell_of_row _ _ a _ _ _ (setRow_heap _ _ _ CR _ _ g0)).trans CB.out
  have c2 := (cell_of_row _ _ (box a) _ _ _ (setRow_heap _ _ _ CS _ _ g1)).trans CK.out
  have G0 := Lib.hid g0
  have G1 := Lib.hid g1
  have C1 := Lib.hid c1
  have C2 := Lib.hid c2
  clear g0 g1 c1 c2
  go_wp2_with (first
    | (refine wpList_store_row rfl 27 (.tmp 3) (.tmp 8) rfl w1.heap.size CR rfl rfl 27 Z G0.out IR.out ZR.out OR.out ?_)
    | (refine wpList_store_row rfl 27 (.tmp 4) (.tmp 9) rfl (w1.heap.size + 1) CS rfl rfl 27 Z G1.out IS.out ZS.out OS.out ?_))
  have B2 : Hid (Below w.heap.size w ((((w1.alloc (.cells Z 27)).alloc (.cells Z 27)).setRow w1.heap.size CR).setRow (w1.heap.size + 1) CS)) :=
    ((((B1.out.alloc B1.out.size _).alloc (by have := B1.out.size; simp; omega) _).trans (below_row _ _ B1.out.size)).trans (below_row _ _ (by have := B1.out.size; omega)))
  have hn1 : w1.heap.size + 1 < ((((w1.alloc (.cells Z 27)).alloc (.cells Z 27)).setRow w1.heap.size CR).setRow (w1.heap.size + 1) CS).heap.size := by simp
  have N1 := Lib.hid hn1
  clear hn1
  generalize ((((w1.alloc (.cells Z 27)).alloc (.cells Z 27)).setRow w1.heap.size CR).setRow (w1.heap.size + 1) CS) = w2 at C1 C2 B2 N1 ⊢
  clear z27 HBX IR OR ZR IS OS ZS CB CK G0 G1
  generalize hbxa : box a = xa at *
  clear hbxa
  go_wp2_with fail
  refine (M2.out _).mono ?_
  rintro e w3 ⟨rfl, hb⟩
  have B3 := Lib.hid hb
  clear hb
  go_wp2_with fail
  refine (alive _).mono ?_
  rintro e w4 ⟨rfl, hb⟩
  have B4 := Lib.hid hb
  clear hb
  go_wp2_with fail
  refine (M1.out _).mono ?_
  rintro e w' ⟨rfl, rfl⟩
  go_wp2_with fail
  have hcell : ∀ w5, Below w4.heap.size w4 w5 → w5.cell? ⟨w1.heap.size, a, none⟩ = some (.int .u8 xa) ∧ w5.cell? ⟨w1.heap.size + 1, xa, none⟩ = some (.int .u8 a) := fun w5 h5 => by
    have n := N1.out
    have n3 := B3.out.size
    have n4 := B4.out.size
    exact ⟨by rw [h5.cell (by simp; omega), B4.out.cell (by simp; omega), B3.out.cell (by simp; omega)]; exact C1.out,
      by rw [h5.cell (by simp; omega), B4.out.cell (by simp; omega), B3.out.cell (by simp; omega)]; exact C2.out⟩
  have HCELL := Lib.hid hcell
  clear hcell
  refine (M3.out _).mono ?_
  rintro e w5 ⟨rfl, hb⟩
  have B5 := Lib.hid hb
  clear hb
  obtain ⟨cc1, cc2⟩ := HCELL.out w5 B5.out
  go_wp2_with fail
  go_ret
  exact ⟨rfl, ((B2.out.trans (B3.out.mono B2.out.size)).trans (B4.out.mono (Nat.le_trans B2.out.size B3.out.size))).trans (B5.out.mono (Nat.le_trans (Nat.le_trans B2.out.size B3.out.size) B4.out.size))⟩
theorem walkI (a : Int) (a0 : 0 ≤ a) (a1 : a ≤ 255) (w : World) :
    Calls Try.prog 4 #[.int .u8 a] w fun e w' => e = .returned (.bool true) ∧ Below w.heap.size w w' := by
  obtain ⟨a, rfl⟩ := Int.eq_ofNat_of_zero_le a0
  exact walk a (by omega) w

set_option maxRecDepth 100000 in
theorem lifted (os : Os) (started : os.Started) (H : Type) (enc : TypeId × Value → H) :
    ReturnsInHanded {} Try.checked os 4 .any (Rows.gfBoxesSpec.pre6 enc Try.prog Try.f4 Rows.gfBoxesRow.domain false) (Rows.gfBoxesSpec.post enc Try.prog Try.f4 false true false false) := by
  refine returnsInHanded_of_change (C := Try.checked) own started (by kernel_rfl) Try.func4
    (ChangeSpec.witness6 (enc := enc) (C := Try.checked) false ⟨#[], #[.int .u8 0], []⟩ 8 (by kernel_rfl) (by kernel_rfl) (by kernel_rfl) (by kernel_rfl)) ?_
  intro W base args ds gs before hval0 hW hcnd _
  have hval : ∀ (j : Nat) t v, Try.f4.params[j]? = some t → args[j]? = some v → Value.okWide Try.prog W .any base t v := hval0
  have hW' := hW
  obtain ⟨p, q, hA0, hV, rfl, hfz, hnd⟩ := hW
  have hA : DataW.TrodAll enc Try.prog W 0 (fun _ => true) true Try.f4.params.toList args.toList ds p := hA0
  rw [Try.params4] at hA hval
  obtain ⟨v0, vs0, d0, ds0, p0, q0, hargs, rfl, rfl, h0, r0⟩ := trodAll_cons hA
  obtain ⟨rfl, rfl, rfl⟩ := trodAll_nil r0
  obtain rfl : args = #[v0] := by cases args; simp_all
  obtain ⟨rfl, rfl⟩ := trodVars_none hV
  obtain ⟨a0, rfl, rfl, rfl, w0⟩ := open_int Try.underlying5 (hval 0 5 v0 rfl rfl) h0
  have b0 := bounds_u8 w0
  refine (walkI a0 b0.1 b0.2 W).mono fun e W' ⟨he, hb⟩ => ?_
  subst he
  exact ⟨_, rfl, law_post hW' rfl rfl rfl (by kernel_rfl) hb⟩

/-- The statement. -/
theorem proved : Rows.GfBoxesSaid :=
  OpenClaim.holds_of_wide 4 Try.f4 rfl rfl rfl rfl rfl rfl rfl ⟨rfl, rfl, rfl, rfl, rfl⟩ rfl rfl rfl rfl rfl (by kernel_rfl) Try.func4 (by kernel_rfl)
    (of_decide_eq_true (by kernel_rfl)) (by unfold Func.isWrapper; first | (rw [if_pos (by decide +kernel)]; kernel_rfl) | (rw [if_neg (by decide +kernel)]; exact ⟨rfl, rfl⟩))
    (fun os started H enc _ => lifted os started H enc)
#print axioms proved
end Go.Proofs.Ytcangpdcdodkdaa.gfBoxes
