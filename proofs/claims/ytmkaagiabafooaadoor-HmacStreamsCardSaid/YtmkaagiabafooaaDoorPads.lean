/-
  Contracts of the functions that the statements of package hmac go through: what makes the pads of a key. Condition: the key reads as bytes, fewer than 2^50.
-/
import Derived.Test.YtmkaagiabafooaaDoorPad
import Derived.Outline
namespace Go.Proofs.YtmkaagiabafooaaDoor
open Go.RowKit
set_option maxRecDepth 100000 in
set_option maxHeartbeats 4000000 in
theorem pads (v : Value) (k : List Int) (w : World) (hv : Sees w v k) (hk : k.length ≤ 1125899906842624) (hG : Glob w) :
    Calls Tryd.prog 49 #[v] w fun e w' => e = .returned (.func (.func 54) #[] #[.pointer (some ⟨w.heap.size, 0, none⟩)]) ∧ w'.heap[w.heap.size]? = some (.cells (bcells (fill k)) 41 (0, 0)) ∧ Below w.heap.size w w' := by
  obtain ⟨x, cap, rfl, hl63⟩ := id hv.form
  have z41 := zv41
  have z27 := zv27
  obtain ⟨Z41, hZ41⟩ : ∃ Z, Z = bcells (List.replicate 64 0) := ⟨_, rfl⟩
  obtain ⟨Z27, hZ27⟩ : ∃ Z, Z = bcells (List.replicate 32 0) := ⟨_, rfl⟩
  rw [← hZ41] at z41
  rw [← hZ27] at z27
  have hsl := arr_all
  have hsl2 := arr32_all
  have hB0 : Below w.heap.size w (w.alloc (.cells Z41 41)) := (Below.refl _ _).alloc (Nat.le_refl _) _
  have hrow : (w.alloc (.cells Z41 41)).heap[w.heap.size]? = some (.cells (bcells (List.replicate 64 0)) 41 (0, 0)) := by rw [heap_alloc_new w _, hZ41]
  have h2 : 2 ≤ w.heap.size := by have := hG.lt; omega
  have hfill : fill k = short k ++ (List.replicate 64 0).drop (short k).length := by
    unfold fill; rw [List.drop_replicate]
  by_cases hbig : 64 < k.length
  · have t1 : (64 : Int) < k.length := by omega
    have hsh : short k = sha k := if_pos hbig
    have lA : (sha k).length = 32 := sha_len k hv.1
    have bA : Byt (sha k) := sha_byt k
    have SM := Lib.hid (sum1 _ k (w.alloc (.cells Z41 41)) (hv.below hB0) hk (hG.below hB0 h2))
    rw [hsh] at hfill
    obtain ⟨A, hA⟩ : ∃ A, A = sha k := ⟨_, rfl⟩
    rw [← hA] at SM lA bA hfill
    have IA := Lib.hid (show (Tryd.prog.info? 27).map (·.size) = some (bcells A).size by rw [i27, bsize, lA])
    have ZA := Lib.hid (show Z27.size = (bcells A).size by rw [hZ27, bsize, bsize, lA, List.length_replicate])
    have OA := Lib.hid (bone A)
    have HF := Lib.hid hfill
    have HB0 := Lib.hid hB0
    have HROW := Lib.hid hrow
    have LA := Lib.hid lA
    have BA := Lib.hid bA
    clear hA hfill hB0 hrow lA bA hsh hv hG hZ41 hZ27
    go_enter Tryd.func49, Tryd.ntmps49
    go_wp2_with fail
    refine SM.out.mono ?_
    rintro e w1 ⟨rfl, hb⟩
    have b1 : Below w.heap.size w w1 := HB0.out.trans (hb.mono HB0.out.size)
    have b2 : Below w.heap.size w ((w1.alloc (.cells Z27 27)).setRow w1.heap.size (bcells A)) := (b1.alloc b1.size _).trans (below_row _ _ b1.size)
    have k1 : w1.heap[w.heap.size]? = some (.cells (bcells (List.replicate 64 0)) 41 (0, 0)) := by rw [hb.block _ (blk_lt HROW.out)]; exact HROW.out
    have hlt : w.heap.size < w1.heap.size := blk_lt k1
    have k2 : ((w1.alloc (.cells Z27 27)).setRow w1.heap.size (bcells A)).heap[w.heap.size]? = some (.cells (bcells (List.replicate 64 0)) 41 (0, 0)) := by
      rw [setRow_other _ _ _ _ (by omega), Below.heap_alloc _ _ _ hlt]; exact k1
    have r2 : Row27 ((w1.alloc (.cells Z27 27)).setRow w1.heap.size (bcells A)) w1.heap.size A := setRow_heap _ _ _ _ _ _ (heap_alloc_new w1 _)
    have s2 : Sees ((w1.alloc (.cells Z27 27)).setRow w1.heap.size (bcells A)) (.slice (some ⟨w1.heap.size, 0, none⟩) 32 32) A := by
      refine ⟨BA.out, .inr (.inr ⟨_, _, _, by rw [LA.out], by intro e; have := LA.out; rw [e] at this; simp at this, by rw [LA.out]; omega, by decide, fun i hi => ?_⟩)⟩
      rw [Nat.zero_add]; exact r2.cell i hi
    have hcp := copy_sees s2 w.heap.size 64 (List.replicate 64 0) 41 k2 List.length_replicate (by rw [LA.out]; omega)
    rw [← HF.out] at hcp
    have HCP := Lib.hid hcp
    have B2 := Lib.hid b2
    have K2 := Lib.hid k2
    clear hb b1 b2 k1 hlt k2 r2 s2 hcp
    go_wp2_with (first
      | (refine wpList_store_row rfl 27 (.tmp 4) (.tmp 9) rfl w1.heap.size (bcells A) rfl rfl 27 Z27 (heap_alloc_new w1 _) IA.out ZA.out OA.out ?_)
      | (refine wpList_copy_run rfl (.tmp 11) (.tmp 12) rfl rfl rfl rfl HCP.out ?_))
    go_ret
    exact ⟨rfl, setRow_heap _ _ _ _ _ _ K2.out, B2.out.trans (below_row _ _ (Nat.le_refl _))⟩
  · have t1 : ¬ (64 : Int) < k.length := by omega
    have hsh : short k = k := if_neg hbig
    rw [hsh] at hfill
    have hcp := copy_sees (hv.below hB0) w.heap.size 64 (List.replicate 64 0) 41 hrow List.length_replicate (by omega)
    rw [← hfill] at hcp
    have HCP := Lib.hid hcp
    have HB0 := Lib.hid hB0
    have HROW := Lib.hid hrow
    clear hfill hB0 hrow hsh hv hG hZ41 hZ27 hcp
    go_enter Tryd.func49, Tryd.ntmps49
    go_wp2_with (refine wpList_copy_run rfl (.tmp 11) (.tmp 12) rfl rfl rfl rfl HCP.out ?_)
    go_ret
    exact ⟨rfl, setRow_heap _ _ _ _ _ _ HROW.out, HB0.out.trans (below_row _ _ (Nat.le_refl _))⟩
end Go.Proofs.YtmkaagiabafooaaDoor
