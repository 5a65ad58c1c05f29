/-
  The fixed calls that each law of package casematelaw28 makes. Condition: none.
-/
import Derived.Test.YtdohggpajhkkhaaRqM
namespace Go.Proofs.Ytdohggpajhkkhaa
open Go.RowKit
def AliveP (w : World) (e : Ending) (w' : World) : Prop := e = .returned (.bool true) ∧ Below w.heap.size w w'
def pA : Rq := { pz 10 with s := 3 }
def pB : Rq := { pz 8 with s := 258, v := 3, c := 4 }
def pC : Rq := { pz 10 with v := 1 }
theorem pA_dec : decP [82, 10, 0, 3] = pA ∧ decE [82, 10, 0, 3] = 0 := ⟨by kernel_rfl, by kernel_rfl⟩
theorem pA2_dec : decE [82, 10, 0] = 70 := by kernel_rfl
theorem pB_enc : encE pB = 0 ∧ encV pB = [82, 8, 1, 2, 3, 0, 4] := ⟨by kernel_rfl, by kernel_rfl⟩
theorem pC_enc : encE pC = 3 := by kernel_rfl
theorem bB (w : World) : (Instr.build 26 #[(0, .int .i64 8), (1, .int .i64 258), (3, .int .i64 3), (5, .int .i64 4)]).run Try.prog w = .ok (.agg (rc pB (.slice none 0 0)).toArray) w := by kernel_rfl
theorem bC (w : World) : (Instr.build 26 #[(0, .int .i64 10), (3, .int .i64 1)]).run Try.prog w = .ok (.agg (rc pC (.slice none 0 0)).toArray) w := by kernel_rfl
theorem pB_ok : RQ pB := by
  constructor <;> first | exact z32_ok | (show i64 _; unfold i64; decide) | exact Nat.zero_le _
theorem pC_ok : RQ pC := by
  constructor <;> first | exact z32_ok | (show i64 _; unfold i64; decide) | exact Nat.zero_le _
theorem wpList_build4_run {ops : Array Oper} {rest : List Oper} {o : Oper} {a : Act} {w : World} {Q : Exit → Act → World → Prop} (hgd : o.guard = none) (t : TypeId) (i1 i2 i3 i4 : Nat) (x1 x2 x3 x4 : Operand)
    (ho : o.op = .build t #[(i1, x1), (i2, x2), (i3, x3), (i4, x4)]) {u1 u2 u3 u4 v : Value} (hx1 : a.eval x1 = u1) (hx2 : a.eval x2 = u2) (hx3 : a.eval x3 = u3) (hx4 : a.eval x4 = u4)
    (hr : (Instr.build t #[(i1, u1), (i2, u2), (i3, u3), (i4, u4)]).run Try.prog w = .ok v w) (h : wpList Try.prog ops Q rest (a.put o.dst v) w) : wpList Try.prog ops Q (o :: rest) a w := by
  refine wpList_plain hgd fun K hK => ?_
  unfold Oper.wp execOp
  simp only [ho, Sem.run_bind, Sem.run_pure, Result.andThen_ok, List.map_toArray, List.map_cons, List.map_nil, hx1, hx2, hx3, hx4, hr]
  exact hK _ _ h
theorem new_sees (w : World) (xs : List Int) (n : Nat) (hn : n = xs.length) (hb : Byt xs) (hm : xs.length ≤ maxLen) : Sees (w.alloc (.cells (bcells xs) 5)) (.slice (some ⟨w.heap.size, 0, none⟩) n n) xs :=
  sees_row _ _ xs hb hm (heap_alloc_new w _) n hn
set_option maxRecDepth 100000 in
set_option maxHeartbeats 400000 in
theorem alive (w : World) : Calls Try.prog 7 #[] w (AliveP w) := by
  obtain ⟨Z, hZ⟩ : ∃ Z, Z = (rc (pz 0) (.slice none 0 0)).toArray := ⟨_, rfl⟩
  have z := z26
  rw [← hZ] at z
  have HZ := Lib.hid z
  have IZ : Hid ((Try.prog.info? 26).map (·.size) = some Z.size) := by show _ = _; rw [hZ]; exact i26 (pz_ok (k := 0) (by unfold i64; omega)) _
  obtain ⟨w1, hw1⟩ : ∃ w1, w1 = w.alloc (.cells (bcells [82, 10, 0, 3]) 5) := ⟨_, rfl⟩
  have B1 : Hid (Below w.heap.size w w1) := by show Below _ _ _; rw [hw1]; exact (Below.refl _ _).alloc (Nat.le_refl _) _
  have D1 : Hid (Calls Try.prog 12 #[.slice (some ⟨w.heap.size, 0, none⟩) 4 4] w1 (DecP w1 [82, 10, 0, 3])) := decodeC _ _ (by decide) w1 (by rw [hw1]; exact new_sees w _ 4 rfl (byt_of _ (by decide)) (by decide))
  have HW1 : Hid (w1 = w.alloc (.cells #[.int .u8 82, .int .u8 10, .int .u8 0, .int .u8 3] 5)) := hw1
  have BB : Hid (∀ W : World, (Instr.build 26 #[(0, .int .i64 8), (1, .int .i64 258), (3, .int .i64 3), (5, .int .i64 4)]).run Try.prog W = .ok (.agg (rc pB (.slice none 0 0)).toArray) W) := bB
  have BC : Hid (∀ W : World, (Instr.build 26 #[(0, .int .i64 10), (3, .int .i64 1)]).run Try.prog W = .ok (.agg (rc pC (.slice none 0 0)).toArray) W) := bC
  have EB : Hid (∀ W : World, Calls Try.prog 8 #[.agg (rc pB (.slice none 0 0)).toArray] W (EncP W pB)) := fun W => encodeC pB_ok (by decide) _ W (sees_nil _)
  have EC : Hid (∀ W : World, Calls Try.prog 8 #[.agg (rc pC (.slice none 0 0)).toArray] W (EncP W pC)) := fun W => encodeC pC_ok (by decide) _ W (sees_nil _)
  clear hw1 z hZ
  generalize (rc pB (.slice none 0 0)).toArray = CB at BB EB
  generalize (rc pC (.slice none 0 0)).toArray = CC at BC EC
  go_enter Try.func7, Try.ntmps7
  go_wp2_with (rw [← HW1.out])
  refine D1.out.mono ?_
  rintro e w2 ⟨dv, rfl, hq, hs, _, hb⟩
  have i1 := i26 hq dv
  have o1 := rc_one (p := decP [82, 10, 0, 3]) hs.one
  rw [pA_dec.1] at i1 o1 ⊢
  rw [pA_dec.2]
  have c0 : (rc pA dv).toArray[0]? = some (.int .i64 10) := rfl
  have c1 : (rc pA dv).toArray[1]? = some (.int .i64 3) := rfl
  generalize (rc pA dv).toArray = C at i1 o1 c0 c1 ⊢
  have IC := Lib.hid i1
  have OC := Lib.hid o1
  have B2 := Lib.hid (B1.out.trans (hb.mono B1.out.size))
  obtain ⟨w3, hw3⟩ : ∃ w3, w3 = w2.alloc (.cells C 26) := ⟨_, rfl⟩
  have RN : Hid ((w2.alloc (.cells Z 26)).setRow w2.heap.size C = w3) := by show _ = _; rw [hw3]; exact alloc_setRowT w2 Z C 26 _ rfl
  have IZC : Hid (Z.size = C.size) := Option.some.inj (IZ.out.symm.trans IC.out)
  have GZ : Hid ((w2.alloc (.cells Z 26)).heap[w2.heap.size]? = some (.cells Z 26 (0, 0))) := heap_alloc_new w2 _
  have hb3 : Below w2.heap.size w2 w3 := by rw [hw3]; exact (Below.refl _ _).alloc (Nat.le_refl _) _
  have g3 : w3.heap[w2.heap.size]? = some (.cells C 26 (0, 0)) := by rw [hw3]; exact heap_alloc_new w2 _
  have G3 := Lib.hid g3
  have B3 := Lib.hid (B2.out.trans (hb3.mono B2.out.size))
  have C0 : Hid (∀ W : World, W.heap[w2.heap.size]? = some (.cells C 26 (0, 0)) → W.cell? ⟨w2.heap.size, 0, none⟩ = some (.int .i64 10) ∧ W.cell? ⟨w2.heap.size, 1, none⟩ = some (.int .i64 3)) := fun W h => ⟨by rw [cell_of_row W _ _ _ _ _ h]; exact c0, by rw [cell_of_row W _ _ _ _ _ h]; exact c1⟩
  clear hw3 hb3 g3 hb hs hq i1 o1 c0 c1 B1 B2 D1 HW1
  go_upto_region 2 with (refine wpList_alloc_z rfl 26 rfl (HZ.out _) ?_; refine wpList_store_row rfl 26 (.tmp 1) (.tmp 12) rfl w2.heap.size C rfl rfl 26 Z GZ.out IC.out IZC.out OC.out ?_; rw [RN.out])
  go_wp2_with (refine wpList_build4_run rfl 26 0 1 3 5 (.const (.int .i64 8)) (.const (.int .i64 258)) (.const (.int .i64 3)) (.const (.int .i64 4)) rfl (u1 := .int .i64 8) (u2 := .int .i64 258) (u3 := .int .i64 3) (u4 := .int .i64 4) rfl rfl rfl rfl (BB.out _) ?_)
  refine (EB.out _).mono ?_
  rintro e w4 ⟨x4, c4, rfl, hs, hb⟩
  rw [pB_enc.1]
  rw [pB_enc.2] at hs ⊢
  have S4 := Lib.hid hs
  have B4 := Lib.hid (B3.out.trans (hb.mono B3.out.size))
  have G4 := Lib.hid ((hb.block _ (blk_lt G3.out)).trans G3.out)
  clear hs hb B3 G3 EB BB
  obtain ⟨w5, hw5⟩ : ∃ w5, w5 = w4.alloc (.cells (bcells [82, 10, 0]) 5) := ⟨_, rfl⟩
  have b5 : Below w4.heap.size w4 w5 := by rw [hw5]; exact (Below.refl _ _).alloc (Nat.le_refl _) _
  have D5 : Hid (Calls Try.prog 12 #[.slice (some ⟨w4.heap.size, 0, none⟩) 3 3] w5 (DecP w5 [82, 10, 0])) := decodeC _ _ (by decide) w5 (by rw [hw5]; exact new_sees w4 _ 3 rfl (byt_of _ (by decide)) (by decide))
  have HW5 : Hid (w5 = w4.alloc (.cells #[.int .u8 82, .int .u8 10, .int .u8 0] 5)) := hw5
  have B5 := Lib.hid (B4.out.trans (b5.mono B4.out.size))
  have G5 := Lib.hid ((b5.block _ (blk_lt G4.out)).trans G4.out)
  have S5 := Lib.hid (S4.out.below b5)
  clear hw5 b5 B4 G4 S4
  go_wp2_with (rw [← HW5.out])
  refine D5.out.mono ?_
  rintro e w6 ⟨du, rfl, hq, hs, _, hb⟩
  rw [pA2_dec]
  have i1 := i26 hq du
  have o1 := rc_one (p := decP [82, 10, 0]) hs.one
  generalize (rc (decP [82, 10, 0]) du).toArray = C2 at i1 o1 ⊢
  have IC2 := Lib.hid i1
  have OC2 := Lib.hid o1
  have B6 := Lib.hid (B5.out.trans (hb.mono B5.out.size))
  have G6 := Lib.hid ((hb.block _ (blk_lt G5.out)).trans G5.out)
  have S6 := Lib.hid (S5.out.below hb)
  obtain ⟨w7, hw7⟩ : ∃ w7, w7 = w6.alloc (.cells C2 26) := ⟨_, rfl⟩
  have RN2 : Hid ((w6.alloc (.cells Z 26)).setRow w6.heap.size C2 = w7) := by show _ = _; rw [hw7]; exact alloc_setRowT w6 Z C2 26 _ rfl
  have IZ2 : Hid (Z.size = C2.size) := Option.some.inj (IZ.out.symm.trans IC2.out)
  have GZ2 : Hid ((w6.alloc (.cells Z 26)).heap[w6.heap.size]? = some (.cells Z 26 (0, 0))) := heap_alloc_new w6 _
  have hb7 : Below w6.heap.size w6 w7 := by rw [hw7]; exact (Below.refl _ _).alloc (Nat.le_refl _) _
  have B7 := Lib.hid (B6.out.trans (hb7.mono B6.out.size))
  have G7 := Lib.hid ((hb7.block _ (blk_lt G6.out)).trans G6.out)
  have S7 := Lib.hid (S6.out.below hb7)
  clear hw7 hb7 hb hs hq i1 o1 B5 B6 G5 G6 S5 S6 D5 HW5
  go_upto_region 4 with (refine wpList_alloc_z rfl 26 rfl (HZ.out _) ?_; refine wpList_store_row rfl 26 (.tmp 5) (.tmp 22) rfl w6.heap.size C2 rfl rfl 26 Z GZ2.out IC2.out IZ2.out OC2.out ?_; rw [RN2.out])
  go_wp2_with (refine wpList_build2_run rfl 26 0 3 (.const (.int .i64 10)) (.const (.int .i64 1)) rfl (u1 := .int .i64 10) (u2 := .int .i64 1) rfl rfl (BC.out _) ?_)
  refine (EC.out _).mono ?_
  rintro e w8 ⟨x8, c8, rfl, _, hb⟩
  rw [pC_enc]
  have B8 := Lib.hid (B7.out.trans (hb.mono B7.out.size))
  have G8 := Lib.hid ((hb.block _ (blk_lt G7.out)).trans G7.out)
  have S8 := Lib.hid (S7.out.below hb)
  generalize (encV pC).length = n8
  clear hb B7 G7 S7 EC BC
  have cc := C0.out w8 G8.out
  obtain ⟨cc0, cc1⟩ := cc
  have cv := S8.out.str
  have st : (strOfNums [82, 8, 1, 2, 3, 0, 4] : ByteArray) = ⟨#[82, 8, 1, 2, 3, 0, 4]⟩ := by kernel_rfl
  rw [st, show ([82, 8, 1, 2, 3, 0, 4] : List Int).length = 7 from rfl] at cv
  go_wp2
  go_ret
  exact ⟨rfl, B8.out⟩
end Go.Proofs.Ytdohggpajhkkhaa
