/-
  What must come of fixed calls of a log. Condition: the two tables hold what they hold.
-/
import Derived.Test.YtboaceabimlodaaDoorLD
import Derived.Test.YtboaceabimlodaaDoorAl
namespace Go.Proofs.YtboaceabimlodaaDoor
open Go.RowKit
def tA : List Int := [97, 98, 99]
def tB : List Int := [98]
theorem bytA : Byt tA := byt3
theorem bytB : Byt tB := byt_of _ (by decide)
theorem clk_fixed : clk sha [tA, tB] = none := by decide +kernel
theorem add1 : addT [] tA = [tA] := by decide
theorem add2 : addT [tA] tB = [tA, tB] := by decide
theorem add3 : addT [tA, tB] tA = [tA, tB] := by decide
theorem hasB : decide (tB ∈ [tA, tB]) = true := by decide
theorem hasN : decide ([] ∈ [tA, tB]) = false := by decide
set_option maxRecDepth 100000 in
set_option maxHeartbeats 8000000 in
theorem alive8 (w : World) (hG : Glob w) : Calls Tryd.prog 7 #[] w fun e w' => e = .returned (.bool true) ∧ Below w.heap.size w w' := by
  have z27 := zv27
  obtain ⟨Z27, hZ27⟩ : ∃ Z, Z = bcells (List.replicate 32 0) := ⟨_, rfl⟩
  rw [← hZ27] at z27
  have lA : (sha tA).length = 32 := sha_len _ bytA
  have iA : Hid ((Tryd.prog.info? 31).map (·.size) = some (bcells (sha tA)).size) := by show _ = _; rw [i27, bsize, lA]
  have zA : Hid (Z27.size = (bcells (sha tA)).size) := by show _ = _; rw [hZ27, bsize, bsize, lA, List.length_replicate]
  have oA := Lib.hid (bone (sha tA))
  have EQ := Lib.hid (eq27_same (sha tA) (sha_byt _) lA)
  have NA : Hid (nth (sha tA) 0 = 186) := by show nth (sha [97, 98, 99]) 0 = 186; rw [sha_abc]; rfl
  have LA := Lib.hid lA
  have H2 : Hid (2 ≤ w.heap.size) := by have := hG.lt; show 2 ≤ _; omega
  have HG := Lib.hid hG
  have BA := Lib.hid bytA
  have BB := Lib.hid bytB
  have SY : Hid (∀ (S : Nat → Prop) (g : Nat) (T : List (List Int)) (b : List Int) (v : Value) (W : World), LG S W g T → (∀ q, b ≠ [] → v.ownBlock = some q → ¬ S q) → T.length ≤ 999999 → Glob W → Byt b → b.length ≤ 140737488351232 → Sees W v b → Calls Tryd.prog 9 #[.pointer (some ⟨g, 0, none⟩), v] W (SumP S W g T b)) := fun S g T b v W h1 h2 h3 h4 h5 h6 h7 => sumY S g T b v W h1 h2 h3 h4 h5 h6 h7
  have HY : Hid (∀ (S : Nat → Prop) (g : Nat) (T : List (List Int)) (b : List Int) (v : Value) (W : World), LG S W g T → T.length ≤ 999999 → Glob W → Byt b → b.length ≤ 140737488351232 → Sees W v b → Calls Tryd.prog 12 #[.pointer (some ⟨g, 0, none⟩), v] W fun e w' => e = .returned (.bool (decide (b ∈ T))) ∧ Below W.heap.size W w') := fun S g T b v W h1 h3 h4 h5 h6 h7 => hasY S g T b v W h1 h3 h4 h5 h6 h7
  have CF := Lib.hid clk_fixed
  have A1 := Lib.hid add1
  have A2 := Lib.hid add2
  have A3 := Lib.hid add3
  have M1 := Lib.hid hasB
  have M2 := Lib.hid hasN
  obtain ⟨SA, hSA⟩ : ∃ SA, SA = sha tA := ⟨_, rfl⟩
  rw [← hSA] at iA zA oA EQ NA LA
  have HSA := Lib.hid hSA
  have cv := conv22
  have zn31 : Hid (∀ W : World, (W.alloc (.cells Z27 31)).heap[W.heap.size]? = some (.cells Z27 31 (0, 0))) := fun W => heap_alloc_new W _
  clear hZ27 hG lA hSA
  go_enter Tryd.func7, Tryd.ntmps7
  go_wp2_with fail
  refine (newL _ H2.out).mono ?_
  rintro e w1 ⟨g, rfl, hl1, hge, hb1⟩
  have L1 := Lib.hid hl1
  have B1 := Lib.hid hb1
  clear hl1 hge hb1
  go_wp2_with fail
  have ba : Below w1.heap.size w1 (w1.alloc (.cells #[.int .u8 97, .int .u8 98, .int .u8 99] 5 (3, 4))) := (Below.refl _ _).alloc (Nat.le_refl _) _
  have sa : Sees (w1.alloc (.cells #[.int .u8 97, .int .u8 98, .int .u8 99] 5 (3, 4))) (.slice (some ⟨w1.heap.size, 0, none⟩) 3 3) tA := sees_mark _ _ rfl byt3 3 rfl (by decide) _
  have Ba := Lib.hid (B1.out.trans (ba.mono B1.out.size))
  refine (SY.out _ g _ _ _ _ (L1.out.below ba) (fun q _ e hs => by
    simp only [Value.ownBlock, Option.some.injEq] at e
    have := (L1.out.own q hs).2
    omega) (by simp) (HG.out.below Ba.out H2.out) BA.out (by decide) sa).mono ?_
  rintro e w2 ⟨rfl, hl2, hm2⟩
  rw [A1.out] at hl2
  have o1 := L1.out.own
  have M12 : Hid (Below w.heap.size w w2) := hm2.below Ba.out Ba.out.size (fun q hq => hq.1)
  have N2 := Lib.hid (fun q (hq : (w.heap.size ≤ q ∧ q < w.heap.size + 2) ∨ (w1.alloc (.cells #[.int .u8 97, .int .u8 98, .int .u8 99] 5 (3, 4))).heap.size ≤ q ∧ q < w2.heap.size) => show w.heap.size ≤ q from by
    have := B1.out.size
    have := ba.size
    rcases hq with hq | hq
    · exact hq.1
    · omega)
  have L2 := Lib.hid hl2
  clear hl2 hm2 ba sa o1 L1 Ba
  generalize hS2 : (fun q => (w.heap.size ≤ q ∧ q < w.heap.size + 2) ∨ (w1.alloc (.cells #[.int .u8 97, .int .u8 98, .int .u8 99] 5 (3, 4))).heap.size ≤ q ∧ q < w2.heap.size) = S2 at L2
  have N2' : Hid (∀ q, S2 q → w.heap.size ≤ q) := fun q hq => by rw [← hS2] at hq; exact N2.out q hq
  clear hS2 N2
  rw [← HSA.out]
  obtain ⟨w3, hw3⟩ : ∃ w3, w3 = (w2.alloc (.cells Z27 31)).setRow w2.heap.size (bcells SA) := ⟨_, rfl⟩
  have B23 : Hid (Below w2.heap.size w2 w3) := by rw [hw3]; exact ((Below.refl _ _).alloc (Nat.le_refl _) _).trans (below_row _ _ (Nat.le_refl _))
  have R3 : Hid (w3.heap[w2.heap.size]? = some (.cells (bcells SA) 31 (0, 0))) := by rw [hw3]; exact setRow_heap _ _ _ _ _ _ (zn31.out w2)
  have HW3 := Lib.hid hw3
  have B3 : Hid (Below w.heap.size w w3) := M12.out.trans (B23.out.mono M12.out.size)
  have L3 := Lib.hid (L2.out.below B23.out)
  have s3 : w2.heap.size + 1 = w3.heap.size := by rw [hw3]; simp
  have cv3 : (convert 23 23 (.slice (some ⟨w2.heap.size + 1, 0, none⟩) 1 1)).run Tryd.prog (((w2.alloc (.cells Z27 31)).setRow w2.heap.size (bcells SA)).alloc (.cells #[.int .u8 98] 5)) = .ok (.slice (some ⟨w2.heap.size + 1, 0, none⟩) 1 1) (((w2.alloc (.cells Z27 31)).setRow w2.heap.size (bcells SA)).alloc (.cells #[.int .u8 98] 5 (1, 2))) := by
    rw [← hw3, s3]
    exact conv22 w3 #[.int .u8 98] 1 1
  have S3 := Lib.hid s3
  clear hw3 s3
  go_wp2_with (refine wpList_store_row rfl 31 (.tmp 2) (.tmp 11) rfl w2.heap.size (bcells SA) rfl rfl 31 Z27 (zn31.out w2) iA.out zA.out oA.out ?_)
  rw [← HW3.out]
  clear cv3
  rw [S3.out]
  have bb : Below w3.heap.size w3 (w3.alloc (.cells #[.int .u8 98] 5 (1, 2))) := (Below.refl _ _).alloc (Nat.le_refl _) _
  have sb : Sees (w3.alloc (.cells #[.int .u8 98] 5 (1, 2))) (.slice (some ⟨w3.heap.size, 0, none⟩) 1 1) tB := sees_mark _ _ rfl bytB 1 rfl (by decide) _
  have Bb := Lib.hid (B3.out.trans (bb.mono B3.out.size))
  refine (SY.out _ g _ _ _ _ (L3.out.below bb) (fun q _ e hs => by
    simp only [Value.ownBlock, Option.some.injEq] at e
    have := (L3.out.own q hs).2
    omega) (by simp) (HG.out.below Bb.out H2.out) BB.out (by decide) sb).mono ?_
  rintro e w4 ⟨rfl, hl4, hm4⟩
  rw [A2.out] at hl4
  have B4 : Hid (Below w.heap.size w w4) := hm4.below Bb.out Bb.out.size (fun q hq => N2'.out q hq)
  have nc : ¬ S2 w2.heap.size := fun hs => by have := (L2.out.own _ hs).2; omega
  have R4 := Lib.hid ((hm4.block _ (Nat.lt_of_lt_of_le (blk_lt R3.out) bb.size) nc).trans ((bb.block _ (blk_lt R3.out)).trans R3.out))
  have N4 : Hid (∀ q, (S2 q ∨ (w3.alloc (.cells #[.int .u8 98] 5 (1, 2))).heap.size ≤ q ∧ q < w4.heap.size) → w.heap.size ≤ q ∧ q ≠ w2.heap.size) := fun q hq => by
    have := blk_lt R3.out
    have := bb.size
    have := B3.out.size
    rcases hq with hq | hq
    · exact ⟨N2'.out q hq, fun e => nc (by rw [← e]; exact hq)⟩
    · exact ⟨by omega, by omega⟩
  have L4 := Lib.hid hl4
  clear hl4 hm4 nc bb sb L3 R3 Bb
  generalize hS4 : (fun q => S2 q ∨ (w3.alloc (.cells #[.int .u8 98] 5 (1, 2))).heap.size ≤ q ∧ q < w4.heap.size) = S4 at L4
  have N4' : Hid (∀ q, S4 q → w.heap.size ≤ q ∧ q ≠ w2.heap.size) := fun q hq => by rw [← hS4] at hq; exact N4.out q hq
  clear hS4 N4
  go_wp2_with fail
  have ba : Below w4.heap.size w4 (w4.alloc (.cells #[.int .u8 97, .int .u8 98, .int .u8 99] 5 (3, 4))) := (Below.refl _ _).alloc (Nat.le_refl _) _
  have sa : Sees (w4.alloc (.cells #[.int .u8 97, .int .u8 98, .int .u8 99] 5 (3, 4))) (.slice (some ⟨w4.heap.size, 0, none⟩) 3 3) tA := sees_mark _ _ rfl byt3 3 rfl (by decide) _
  have Ba := Lib.hid (B4.out.trans (ba.mono B4.out.size))
  refine (SY.out _ g _ _ _ _ (L4.out.below ba) (fun q _ e hs => by
    simp only [Value.ownBlock, Option.some.injEq] at e
    have := (L4.out.own q hs).2
    omega) (by simp) (HG.out.below Ba.out H2.out) BA.out (by decide) sa).mono ?_
  rintro e w5 ⟨rfl, hl5, hm5⟩
  rw [A3.out] at hl5
  have B5 : Hid (Below w.heap.size w w5) := hm5.below Ba.out Ba.out.size (fun q hq => (N4'.out q hq).1)
  have R5 := Lib.hid ((hm5.block _ (Nat.lt_of_lt_of_le (blk_lt R4.out) ba.size) (fun hs => (N4'.out _ hs).2 rfl)).trans ((ba.block _ (blk_lt R4.out)).trans R4.out))
  have L5 := Lib.hid hl5
  clear hl5 hm5 ba sa L4 R4 Ba
  rw [← HSA.out]
  obtain ⟨w6, hw6⟩ : ∃ w6, w6 = (w5.alloc (.cells Z27 31)).setRow w5.heap.size (bcells SA) := ⟨_, rfl⟩
  have B56 : Hid (Below w5.heap.size w5 w6) := by rw [hw6]; exact ((Below.refl _ _).alloc (Nat.le_refl _) _).trans (below_row _ _ (Nat.le_refl _))
  have R6 : Hid (w6.heap[w5.heap.size]? = some (.cells (bcells SA) 31 (0, 0))) := by rw [hw6]; exact setRow_heap _ _ _ _ _ _ (zn31.out w5)
  have R26 := Lib.hid ((B56.out.block _ (blk_lt R5.out)).trans R5.out)
  have HW6 := Lib.hid hw6
  have B6 : Hid (Below w.heap.size w w6) := B5.out.trans (B56.out.mono B5.out.size)
  have L6 := Lib.hid (L5.out.below B56.out)
  have CL := Lib.hid (clashY0 _ g _ w6 L6.out CF.out)
  clear hw6 L5
  go_wp2_with (refine wpList_store_row rfl 31 (.tmp 3) (.tmp 19) rfl w5.heap.size (bcells SA) rfl rfl 31 Z27 (zn31.out w5) iA.out zA.out oA.out ?_)
  rw [← HW6.out]
  refine CL.out.mono ?_
  rintro e w' ⟨rfl, rfl⟩
  have c0 : w6.cell? ⟨w2.heap.size, 0, none⟩ = some (.int .u8 186) := by
    rw [cell_of_row _ _ _ _ _ _ R26.out, ← NA.out]
    simp [bcells, nth, LA.out, List.getD]
  have eq := EQ.out
  have CO := Lib.hid (countY _ g _ w6 L6.out)
  go_wp2_with (first
    | (refine wpList_load_row rfl 31 (.tmp 2) rfl w2.heap.size rfl 31 (bcells SA) (0, 0) _ R26.out Tryd.underlying31 rfl iA.out ?_)
    | (refine wpList_load_row rfl 31 (.tmp 3) rfl w5.heap.size rfl 31 (bcells SA) (0, 0) _ R6.out Tryd.underlying31 rfl iA.out ?_))
  refine CO.out.mono ?_
  rintro e w' ⟨rfl, rfl⟩
  clear c0 eq
  go_wp2_with fail
  have bb : Below w6.heap.size w6 (w6.alloc (.cells #[.int .u8 98] 5 (1, 2))) := (Below.refl _ _).alloc (Nat.le_refl _) _
  have sb : Sees (w6.alloc (.cells #[.int .u8 98] 5 (1, 2))) (.slice (some ⟨w6.heap.size, 0, none⟩) 1 1) tB := sees_mark _ _ rfl bytB 1 rfl (by decide) _
  have Bb := Lib.hid (B6.out.trans (bb.mono B6.out.size))
  have HB' := HY.out _ g _ _ _ _ (L6.out.below bb) (by simp) (HG.out.below Bb.out H2.out) BB.out (by decide) sb
  rw [M1.out] at HB'
  refine HB'.mono ?_
  rintro e w7 ⟨rfl, hb7⟩
  have B7 := Lib.hid (Bb.out.trans (hb7.mono Bb.out.size))
  have L7 := Lib.hid ((L6.out.below bb).below hb7)
  clear hb7 bb sb HB'
  have HN := HY.out _ g _ [] (.slice none 0 0) w7 L7.out (by simp) (HG.out.below B7.out H2.out) (fun _ h => by simp at h) (by decide) (sees_nil w7)
  rw [M2.out] at HN
  have HNh := Lib.hid HN
  clear HN
  go_wp2_with fail
  refine HNh.out.mono ?_
  rintro e w8 ⟨rfl, hb8⟩
  have B8 := Lib.hid (B7.out.trans (hb8.mono B7.out.size))
  clear hb8
  go_wp2_with fail
  go_ret
  exact ⟨rfl, B8.out⟩
end Go.Proofs.YtboaceabimlodaaDoor
