/-
  One setting of the register on both disks answers alike. Condition: both lie in memory and are equal.
-/
import Derived.Test.YtklhnibmpdaioaaXL
namespace Go.Proofs.Ytklhnibmpdaioaa
open Go.ChangeShapes Go.WideShapes Go.ChangeAt Go.RowKit
/-- The register that an op sets. -/
def rgV (y : Nat) : List Value := .int .u8 (y : Int) :: .int .u8 9 :: List.replicate 62 (.int .u8 0)
theorem rgV_rg (y : Nat) : Rg (rgV y) := ⟨y :: 9 :: List.replicate 62 0, by simp [rgV], by simp⟩
theorem built44 (y : Nat) : Try.prog.built 44 [(0, .int .u8 (y : Int)), (1, .int .u8 9)] = some (rgV y).toArray := by kernel_rfl
section
variable {w0 w : World} {g N sb hb q j : Nat}
set_option maxRecDepth 100000
set_option maxHeartbeats 4000000
theorem one3 (h : OneS w0 g N sb hb q j w) (hj : j ≤ 1000) (s y : Nat) (n : Int) (x : Option Addr) (l c : Nat) :
    Calls Try.prog 17 #[.pointer (some ⟨g, 0, none⟩), .pointer (some ⟨q, 0, none⟩), .agg #[.int .i64 3, .int .u32 s, .int .u8 y, .int .i64 n, .slice x l c]] w fun e w' => e = .returned (.bool true) ∧ OneS w0 g N sb hb q (j + 1) w' := by
  have CE : Hid (Below w.heap.size w (w.alloc (.cells #[.int .i64 3, .int .u32 s, .int .u8 y, .int .i64 n, .slice x l c] 34))) := (Below.refl _ _).alloc (Nat.le_refl _) _
  have S1 := Lib.hid (h.below CE.out)
  have O1 : Hid (diskDown.Opc (w.alloc (.cells #[.int .i64 3, .int .u32 s, .int .u8 y, .int .i64 n, .slice x l c] 34)) w.heap.size 3 s y n x l c) := ⟨heap_alloc_new _ _⟩
  have HJ := Lib.hid hj
  clear CE h hj
  have hz : ∀ w, (zeroValue 44).run Try.prog w = .ok (.agg zer64) w := zero44
  obtain ⟨Zy, hZy⟩ : ∃ Zy, Zy = rgV y := ⟨_, rfl⟩
  have LIT : Hid (((zer64.toList.set 0 (Value.int .u8 (y : Int))).set 1 (Value.int .u8 9)).toArray = Zy.toArray) := by show _ = _; rw [hZy]; rfl
  have BU : Try.prog.built 44 [(0, .int .u8 (y : Int)), (1, .int .u8 9)] = some Zy.toArray := by rw [hZy]; exact built44 y
  have RV : Hid (Rg Zy) := by show Rg _; rw [hZy]; exact rgV_rg y
  have ZL : Hid (Zy.length = 64) := RV.out.len
  have IZ : Hid ((Try.prog.info? 44).map (·.size) = some Zy.toArray.size) := info44s.trans (by simp [ZL.out])
  have IR : Hid ((Try.prog.info? 44).map (·.size) = some Zy.length) := info44s.trans (by rw [ZL.out])
  have SZ : Hid (zer64.size = Zy.toArray.size) := by show _ = _; simp [ZL.out]; rfl
  have ON : Hid (Zy.toArray.all (·.oneCell') = true) := all_oneCell_toArray RV.out.one
  clear hZy
  have hs1 : (w.alloc (.cells #[.int .i64 3, .int .u32 s, .int .u8 y, .int .i64 n, .slice x l c] 34)).heap.size = w.heap.size + 1 := by simp
  have G9 : Hid (((w.alloc (.cells #[.int .i64 3, .int .u32 s, .int .u8 y, .int .i64 n, .slice x l c] 34)).alloc (.cells zer64 44)).heap[w.heap.size + 1]? = some (.cells zer64 44 (0, 0))) := by
    show _ = _
    rw [← hs1]; exact heap_alloc_new _ _
  have GE : Hid (((w.alloc (.cells #[.int .i64 3, .int .u32 s, .int .u8 y, .int .i64 n, .slice x l c] 34)).alloc (.cells zer64 44)).setRow (w.heap.size + 1) Zy.toArray = (w.alloc (.cells #[.int .i64 3, .int .u32 s, .int .u8 y, .int .i64 n, .slice x l c] 34)).alloc (.cells Zy.toArray 44)) := by
    show _ = _
    rw [← hs1]; exact alloc_setRow _ _ _ _
  have G8 : Hid (((w.alloc (.cells #[.int .i64 3, .int .u32 s, .int .u8 y, .int .i64 n, .slice x l c] 34)).alloc (.cells Zy.toArray 44)).heap[w.heap.size + 1]? = some (.cells Zy.toArray 44 (0, 0))) := by
    show _ = _
    rw [← hs1]; exact heap_alloc_new _ _
  have S2 : Hid (OneS w0 g N sb hb q j ((w.alloc (.cells #[.int .i64 3, .int .u32 s, .int .u8 y, .int .i64 n, .slice x l c] 34)).alloc (.cells Zy.toArray 44))) := S1.out.below ((Below.refl _ _).alloc (Nat.le_refl _) _)
  clear hs1 S1 O1
  go_enter Try.func17, Try.ntmps17
  go_wp2_with (refine wpList_store_row rfl 44 (.tmp 11) (.tmp 72) rfl (w.heap.size + 1) ((zer64.toList.set 0 (Value.int .u8 (y : Int))).set 1 (Value.int .u8 9)).toArray rfl rfl 44 zer64 G9.out (by rw [LIT.out]; exact IZ.out) (by rw [LIT.out]; exact SZ.out) (by rw [LIT.out]; exact ON.out) ?_)
  rw [LIT.out, GE.out]
  clear GE G9
  obtain ⟨a9, ha9⟩ : ∃ a9, a9 = w.heap.size + 1 := ⟨_, rfl⟩
  obtain ⟨v0, hv0⟩ : ∃ v0, v0 = (w.alloc (.cells #[.int .i64 3, .int .u32 s, .int .u8 y, .int .i64 n, .slice x l c] 34)).alloc (.cells Zy.toArray 44) := ⟨_, rfl⟩
  rw [← hv0, ← ha9] at G8
  rw [← hv0] at S2
  rw [← hv0, ← ha9]
  clear hv0 ha9
  have RG : Hid (∀ W : World, W.heap[a9]? = some (.cells Zy.toArray 44 (0, 0)) → W.rangeAt a9 0 Zy) := fun W h j v hv => by
    rw [cell_of_row _ _ _ _ _ _ h, Nat.zero_add]; simpa using hv
  have r0 : v0.rangeAt a9 0 Zy := RG.out v0 G8.out
  have i0 : (Try.prog.info? 44).map (·.size) = some Zy.length := IR.out
  have u0 := Try.underlying44
  obtain ⟨r, C⟩ := setregPair (S2.out.below ((Below.refl _ _).drew)) HJ.out a9 Zy RV.out (show v0.drew.heap[a9]? = _ from G8.out)
  have CC := Lib.hid C
  clear C
  simp only [Act.put]
  go_region_held3 (fun W => W.rangeAt a9 0 Zy) (first | assumption | go_keep_ranges)
    (first
      | (go_at_call 29; refine CC.out.mono ?_; rintro e w2 ⟨rfl, h2, nx⟩; have NX := Lib.hid nx; have r2 := RG.out w2 h2; clear h2 nx)
      | (go_at_call 54; refine NX.out.mono ?_; rintro e w4 ⟨rfl, h4, o4⟩; have O4 := Lib.hid o4; have r4 := RG.out w4 h4; clear h4 o4))
  go_wp2_with fail
  go_ret
  refine ⟨?_, O4.out⟩
  first | rfl | (simp; done)
end
end Go.Proofs.Ytklhnibmpdaioaa
