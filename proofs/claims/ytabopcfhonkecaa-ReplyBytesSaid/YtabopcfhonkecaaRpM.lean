/-
  The fixed calls that each law of package casematelaw29 makes. Condition: none.
-/
import Derived.Test.YtabopcfhonkecaaRpL
namespace Go.Proofs.Ytabopcfhonkecaa
open Go.RowKit
def AliveP (w : World) (e : Ending) (w' : World) : Prop := e = .returned (.bool true) ∧ Below w.heap.size w w'
def aX : List Int := [0, 0, 0, 0, 1, 2, 9]
def aS : List Int := [258, 0, 0, 0, 0, 0, 0, 0, 0, 0, 0, 0, 0, 0, 0, 0, 0, 0, 0]
def aV : List Int := [1, 2, 0, 0, 0, 0, 0, 0, 0, 0, 0, 0, 0, 0, 0, 0, 0, 0, 0, 0, 0, 0, 0, 0, 0, 0, 0, 0, 0, 0, 0, 0, 0, 0, 0, 0, 0, 0]
theorem a_enc : encE ⟨51, 0, []⟩ = 0 ∧ encV ⟨51, 0, []⟩ = [0, 51, 0, 0, 0, 0] := ⟨by kernel_rfl, by kernel_rfl⟩
theorem a_dec : decP aX = ⟨0, 258, [9]⟩ ∧ decE aX = 0 := ⟨by kernel_rfl, by kernel_rfl⟩
theorem a_wr : wE aS = 0 ∧ wV aS = aV := ⟨by kernel_rfl, by kernel_rfl⟩
theorem a_rd : stL (aV.take 19) = zL ∧ stE (aV.take 19) = 3 := ⟨by kernel_rfl, by kernel_rfl⟩
theorem a_str : (strOfNums [0, 51, 0, 0, 0, 0] : ByteArray) = ⟨#[0, 51, 0, 0, 0, 0]⟩ := by kernel_rfl
theorem b41a (w : World) : (Instr.build 41 #[(0, .int .i64 258)]).run Try.prog w = .ok (.agg (sc aS).toArray) w := by kernel_rfl
theorem new_sees (w : World) (xs : List Int) (n : Nat) (hn : n = xs.length) (hb : Byt xs) (hm : xs.length ≤ maxLen) : Sees (w.alloc (.cells (bcells xs) 5)) (.slice (some ⟨w.heap.size, 0, none⟩) n n) xs :=
  sees_row _ _ xs hb hm (heap_alloc_new w _) n hn
set_option maxRecDepth 100000 in
set_option maxHeartbeats 4000000 in
theorem alive (w : World) : Calls Try.prog 7 #[] w (AliveP w) := by
  obtain ⟨Z, hZ⟩ : ∃ Z, Z = (rc ⟨0, 0, []⟩ (.slice none 0 0)).toArray := ⟨_, rfl⟩
  have z := z25
  have iz := i25 ⟨0, 0, []⟩ (.slice none 0 0)
  rw [← hZ] at z iz
  have HZ := Lib.hid z
  have IZ := Lib.hid iz
  obtain ⟨Y, hY⟩ : ∃ Y, Y = (sc zL).toArray := ⟨_, rfl⟩
  have zy := z41
  have iy := i41 (L := zL) rfl
  have oy := sc_one zL
  rw [← hY] at zy iy oy
  have HY := Lib.hid zy
  have IY := Lib.hid iy
  have OY := Lib.hid oy
  have HYE := Lib.hid hY
  have F1 : Hid (Calls Try.prog 14 #[.int .i64 51] w fun e w' => e = .returned (.agg (rc ⟨51, 0, []⟩ (.slice none 0 0)).toArray) ∧ Below w.heap.size w w') := failC 51 w
  have E1 : Hid (∀ W : World, Calls Try.prog 8 #[.agg (rc ⟨51, 0, []⟩ (.slice none 0 0)).toArray] W (EncP W ⟨51, 0, []⟩)) := fun W => encodeC (p := ⟨51, 0, []⟩) (by show 0 ≤ 5000; omega) _ W (sees_nil _)
  have BS := Lib.hid b41a
  have WS : Hid (∀ W : World, Calls Try.prog 15 #[.agg (sc aS).toArray] W (WriteP W aS)) := fun W => writeC (L := aS) rfl W
  generalize (rc ⟨51, 0, []⟩ (.slice none 0 0)).toArray = A51 at F1 E1
  generalize (sc aS).toArray = AS at BS WS
  clear z iz zy iy oy hZ hY
  go_enter Try.func7, Try.ntmps7
  go_wp2_with fail
  refine F1.out.mono ?_
  rintro e w2 ⟨rfl, hb⟩
  have B2 := Lib.hid hb
  clear hb F1
  go_wp2_with fail
  refine (E1.out w2).mono ?_
  rintro e w3 ⟨x3, c3, rfl, hs, hb⟩
  rw [a_enc.1]
  rw [a_enc.2] at hs ⊢
  have S3 := Lib.hid hs
  have B3 := Lib.hid (B2.out.trans (hb.mono B2.out.size))
  clear hs hb E1 B2
  obtain ⟨w4, hw4⟩ : ∃ w4, w4 = w3.alloc (.cells (bcells aX) 5) := ⟨_, rfl⟩
  have b4 : Below w3.heap.size w3 w4 := by rw [hw4]; exact (Below.refl _ _).alloc (Nat.le_refl _) _
  have D4 : Hid (Calls Try.prog 11 #[.slice (some ⟨w3.heap.size, 0, none⟩) 7 7] w4 (DecP w4 aX)) := decodeC _ _ (by decide) w4 (by rw [hw4]; exact new_sees w3 _ 7 rfl (byt_of _ (by decide)) (by decide))
  have HW4 : Hid (w4 = w3.alloc (.cells #[.int .u8 0, .int .u8 0, .int .u8 0, .int .u8 0, .int .u8 1, .int .u8 2, .int .u8 9] 5)) := hw4
  have B4 := Lib.hid (B3.out.trans (b4.mono B3.out.size))
  have S4 := Lib.hid (S3.out.below b4)
  clear hw4 b4 B3 S3
  go_wp2_with (rw [← HW4.out])
  refine D4.out.mono ?_
  rintro e w5 ⟨dv, rfl, hs, _, hb⟩
  rw [a_dec.1] at hs ⊢
  rw [a_dec.2]
  obtain ⟨xd, cd, rfl, _⟩ := hs.form
  have S5 := Lib.hid (S4.out.below hb)
  have B5 := Lib.hid (B4.out.trans (hb.mono B4.out.size))
  have ic := i25 ⟨0, 258, [9]⟩ (.slice xd ([9] : List Int).length cd)
  have oc : (rc ⟨0, 258, [9]⟩ (.slice xd ([9] : List Int).length cd)).toArray.all (·.oneCell') = true := rc_one rfl
  have CR : Hid (∀ W : World, W.heap[w5.heap.size]? = some (.cells (rc ⟨0, 258, [9]⟩ (.slice xd ([9] : List Int).length cd)).toArray 25 (0, 0)) → W.cell? ⟨w5.heap.size, 1, none⟩ = some (.int .i64 258) ∧ W.cell? ⟨w5.heap.size, 2, none⟩ = some (.slice xd 1 cd)) := fun W h => (row_rc h).2
  obtain ⟨C, hC⟩ : ∃ C, C = (rc ⟨0, 258, [9]⟩ (.slice xd ([9] : List Int).length cd)).toArray := ⟨_, rfl⟩
  rw [← hC] at ic oc CR ⊢
  have IC := Lib.hid ic
  have OC := Lib.hid oc
  have IZC : Hid (Z.size = C.size) := Option.some.inj (IZ.out.symm.trans ic)
  obtain ⟨w6, hw6⟩ : ∃ w6, w6 = w5.alloc (.cells C 25) := ⟨_, rfl⟩
  have RNw6 : Hid ((w5.alloc (.cells Z 25)).setRow w5.heap.size C = w6) := by show _ = _; rw [hw6]; exact alloc_setRowT w5 Z C 25 _ rfl
  have GNw6 : Hid ((w5.alloc (.cells Z 25)).heap[w5.heap.size]? = some (.cells Z 25 (0, 0))) := heap_alloc_new w5 _
  have hw6b : Below w5.heap.size w5 w6 := by rw [hw6]; exact (Below.refl _ _).alloc (Nat.le_refl _) _
  have Gw6 : Hid (w6.heap[w5.heap.size]? = some (.cells C 25 (0, 0))) := by show _ = _; rw [hw6]; exact heap_alloc_new w5 _
  have B6 := Lib.hid (B5.out.trans (hw6b.mono B5.out.size))
  have S6 := Lib.hid (S5.out.below hw6b)
  clear hw6 hw6b hs hb ic oc hC B4 B5 S4 S5 D4 HW4
  go_upto_region 3 with (refine wpList_alloc_z rfl 25 rfl (HZ.out _) ?_; refine wpList_store_row rfl 25 (.tmp 3) (.tmp 17) rfl w5.heap.size C rfl rfl 25 Z GNw6.out IC.out IZC.out OC.out ?_; rw [RNw6.out])
  go_wp2_with (refine wpList_build_run (u := .int .i64 258) rfl 41 0 (.const (.int .i64 258)) rfl rfl (BS.out _) ?_)
  refine (WS.out _).mono ?_
  rintro e w7 ⟨x7, c7, rfl, hs, hb⟩
  rw [a_wr.1]
  rw [a_wr.2] at hs ⊢
  have B7 := Lib.hid (B6.out.trans (hb.mono B6.out.size))
  have S7 := Lib.hid (S6.out.below hb)
  have G7 := Lib.hid ((hb.block _ (blk_lt Gw6.out)).trans Gw6.out)
  obtain ⟨b, o, cap, hv, hlt⟩ := sees_pos hs (by decide)
  have hl38 : aV.length = 38 := rfl
  rw [hl38] at hv
  obtain ⟨hcl, hcm⟩ : 38 ≤ cap ∧ cap ≤ maxLen := by
    rw [hl38, hv] at hs
    rcases hs with ⟨_, ⟨h, _⟩ | ⟨_, _, _, h, _⟩ | ⟨_, _, _, h, _, h4, h5, _⟩⟩
    · cases h
    · cases h
    · cases h; exact ⟨h4, h5⟩
  rw [hl38, hv] at hs
  rw [hl38, hv]
  have V7 := Lib.hid hs
  have SL : Hid (∀ W, (Instr.slice 23 (.slice (some ⟨b, o, none⟩) 38 cap) none (some (.int .i64 19)) none).run Try.prog W = .ok (.slice (some ⟨b, o, none⟩) 19 cap) W) := fun W => sl_to b o 38 cap 19 (by omega) W
  have RD : Hid (Calls Try.prog 18 #[.slice (some ⟨b, o, none⟩) 19 cap] w7 (ReadS w7 (aV.take 19))) := readC _ _ (by decide) w7 (by
    have h := sees_sub hs 0 19 cap (by decide) (by decide) (by omega) hcm
    rw [Nat.add_zero, List.drop_zero] at h
    exact h)
  have sl := SL.out w7
  clear hs hb hv hlt hl38 hcl hcm B6 S6 Gw6 WS BS
  go_wp2_with fail
  refine RD.out.mono ?_
  rintro e w8 ⟨rfl, hb⟩
  rw [a_rd.1, a_rd.2, ← HYE.out]
  have B8 := Lib.hid (B7.out.trans (hb.mono B7.out.size))
  have S8 := Lib.hid (S7.out.below hb)
  have G8 := Lib.hid ((hb.block _ (blk_lt G7.out)).trans G7.out)
  have V8 := Lib.hid (V7.out.below hb)
  obtain ⟨w9, hw9⟩ : ∃ w9, w9 = w8.alloc (.cells Y 41) := ⟨_, rfl⟩
  have RNw9 : Hid ((w8.alloc (.cells Y 41)).setRow w8.heap.size Y = w9) := by show _ = _; rw [hw9]; exact alloc_setRowT w8 Y Y 41 _ rfl
  have GNw9 : Hid ((w8.alloc (.cells Y 41)).heap[w8.heap.size]? = some (.cells Y 41 (0, 0))) := heap_alloc_new w8 _
  have hw9b : Below w8.heap.size w8 w9 := by rw [hw9]; exact (Below.refl _ _).alloc (Nat.le_refl _) _
  have Gw9 : Hid (w9.heap[w8.heap.size]? = some (.cells Y 41 (0, 0))) := by show _ = _; rw [hw9]; exact heap_alloc_new w8 _
  have B9 := Lib.hid (B8.out.trans (hw9b.mono B8.out.size))
  have S9 := Lib.hid (S8.out.below hw9b)
  have G9 := Lib.hid ((hw9b.block _ (blk_lt G8.out)).trans G8.out)
  have V9 := Lib.hid (V8.out.below hw9b)
  have cv := S9.out.str
  rw [a_str, show ([0, 51, 0, 0, 0, 0] : List Int).length = 6 from rfl] at cv
  obtain ⟨cc1, cc2⟩ := CR.out w9 G9.out
  have cc3 := V9.out.cell 0 (by decide)
  have n0 : nth aV 0 = 1 := rfl
  rw [n0, Nat.add_zero] at cc3
  clear hw9 hw9b hb sl B7 S7 G7 V7 B8 S8 G8 V8 SL RD
  go_wp2_with (refine wpList_alloc_z rfl 41 rfl (HY.out _) ?_; refine wpList_store_row rfl 41 (.tmp 7) (.tmp 31) rfl w8.heap.size Y rfl rfl 41 Y GNw9.out IY.out rfl OY.out ?_; rw [RNw9.out])
  go_ret
  exact ⟨rfl, B9.out⟩
end Go.Proofs.Ytabopcfhonkecaa
