/-
  Contract of the function that the statements of package node go through: what must come of fixed calls. No condition.
-/
import Derived.Test.YtnifaldgofmciaaNdT
namespace Go.Proofs.Ytnifaldgofmciaa
open Go.RowKit
open oc (Byt Sees be nth)
def AliveP (w : World) (e : Ending) (w' : World) : Prop := e = .returned (.bool true) ∧ Below w.heap.size w w'
set_option maxRecDepth 100000 in
set_option maxHeartbeats 8000000 in
theorem alive8 (w : World) : Calls Try.prog 8 #[] w (AliveP w) := by
  have hz := z26
  have hB := Lib.hid b26
  obtain ⟨Z, hZ⟩ : ∃ Z : Array Value, Z = #[.bool false, .slice none 0 0, .slice none 0 0, .slice none 0 0] := ⟨_, rfl⟩
  have NZ : Hid (∀ W, ND W (.agg Z) nz) := fun W => by rw [hZ]; exact nd_nz W
  rw [← hZ] at hz hB
  have IZ : Hid ((Try.prog.info? 26).map (·.size) = some Z.size) := by show _ = _; rw [hZ]; exact size26' _ _ _ _
  have Z4 : Hid (Z.size = 4) := by show _ = _; rw [hZ]; rfl
  clear hZ
  obtain ⟨W1, hW1⟩ : ∃ W1, W1 = w.alloc (.cells #[.int .u64 7] 52) := ⟨_, rfl⟩
  obtain ⟨VR, hVR⟩ : ∃ VR : Array Value, VR = (val v1).toArray := ⟨_, rfl⟩
  obtain ⟨W2, hW2⟩ : ∃ W2, W2 = W1.alloc (.cells VR 54) := ⟨_, rfl⟩
  obtain ⟨AR, hAR⟩ : ∃ AR : Array Value, AR = #[.bool true, .slice (some ⟨w.heap.size, 0, none⟩) 1 1, .slice (some ⟨W1.heap.size, 0, none⟩) 1 1, .slice none 0 0] := ⟨_, rfl⟩
  obtain ⟨W3, hW3⟩ : ∃ W3, W3 = W2.alloc (.cells AR 26) := ⟨_, rfl⟩
  have S1 : Hid ((Instr.buildSlice 22 1 #[(0, .int .u64 7)]).run Try.prog w = .ok (.slice (some ⟨w.heap.size, 0, none⟩) 1 1) W1) := by show _ = _; rw [hW1]; exact bs22 w
  have S2 : Hid ((Instr.build 54 #[(0, .int .u8 1)]).run Try.prog W1 = .ok (.agg VR) W1) := by show _ = _; rw [hVR]; exact b54v W1
  have S3 : Hid ((Instr.buildSlice 23 1 #[(0, .agg VR)]).run Try.prog W1 = .ok (.slice (some ⟨W1.heap.size, 0, none⟩) 1 1) W2) := by show _ = _; rw [hW2, hVR]; exact bs23v W1
  have S4 : Hid ((Instr.build 26 #[(0, .bool true), (1, .slice (some ⟨w.heap.size, 0, none⟩) 1 1), (2, .slice (some ⟨W1.heap.size, 0, none⟩) 1 1)]).run Try.prog W2 = .ok (.agg AR) W2) := by show _ = _; rw [hAR]; exact b26n _ _ W2
  have b1 : Below w.heap.size w W1 := by rw [hW1]; exact (Below.refl _ _).alloc (Nat.le_refl _) _
  have b2 : Below W1.heap.size W1 W2 := by rw [hW2]; exact (Below.refl _ _).alloc (Nat.le_refl _) _
  have b3 : Below W2.heap.size W2 W3 := by rw [hW3]; exact (Below.refl _ _).alloc (Nat.le_refl _) _
  have G1 : W1.heap[w.heap.size]? = some (.cells #[.int .u64 7] 52 (0, 0)) := by rw [hW1]; exact heap_alloc_new w _
  have G2 : W2.heap[W1.heap.size]? = some (.cells VR 54 (0, 0)) := by rw [hW2]; exact heap_alloc_new W1 _
  have G12 : W2.heap[w.heap.size]? = some (.cells #[.int .u64 7] 52 (0, 0)) := (b2.block _ (Array.getElem?_eq_some_iff.1 G1).1).trans G1
  have N2 : ND W2 (.agg AR) n0 := by rw [hAR]; exact nd_n0 G12 (by rw [← hVR]; exact G2)
  have N3 := Lib.hid (N2.below b3)
  have BE3 : Hid (Below w.heap.size w W3) := (b1.trans (b2.mono b1.size)).trans (b3.mono (Nat.le_trans b1.size b2.size))
  have GN := Lib.hid (heap_alloc_new W2 (.cells Z 26))
  have RW : Hid ((W2.alloc (.cells Z 26)).setRow W2.heap.size AR = W3) := by show _ = _; rw [hW3]; exact alloc_setRowT W2 Z AR 26 _ rfl
  have G3 : Hid (W3.heap[W2.heap.size]? = some (.cells AR 26 (0, 0))) := by show _ = _; rw [hW3]; exact heap_alloc_new W2 _
  have IA : Hid ((Try.prog.info? 26).map (·.size) = some AR.size) := by show _ = _; rw [hAR]; exact size26' _ _ _ _
  have SA : Hid (Z.size = AR.size) := by show _ = _; rw [Z4.out, hAR]; rfl
  have OA : Hid (AR.all (·.oneCell') = true) := by show _ = _; rw [hAR]; simp [Value.oneCell']
  have WR : Hid (∀ v W, ND W v n0 → Calls Try.prog 10 #[v] W fun e w' => ∃ q, e = .returned (.tuple #[q, .int .i64 0]) ∧ Sees w' q (nB n0) ∧ Below W.heap.size W w') := fun v W h => by
    have := write v n0 W h (by intro p hp; simp [n0] at hp)
    unfold WriteP at this
    rw [n0_wrV, n0_wrE] at this
    exact this
  have WZ : Hid (∀ v W, ND W v nz → Calls Try.prog 10 #[v] W fun e w' => ∃ q, e = .returned (.tuple #[q, .int .i64 3]) ∧ Below W.heap.size W w') := fun v W h => by
    have := write v nz W h (by intro p hp; simp [nz] at hp)
    unfold WriteP at this
    rw [nz_wrE] at this
    exact this.mono fun e w' ⟨q, h1, _, h2⟩ => ⟨q, h1, h2⟩
  have RD : Hid (∀ v W, Sees W v (nB n0) → Calls Try.prog 15 #[v] W fun e w' => ∃ u, e = .returned (.tuple #[u, .int .i64 0]) ∧ ND w' u n0 ∧ Below W.heap.size W w') := fun v W h => by
    have := read v _ W h (by rw [n0_len]; decide)
    unfold ReadP at this
    rw [if_pos n0_is, if_pos n0_is, n0_read] at this
    exact this
  have FI : Hid (∀ v W, ND W v n0 → Calls Try.prog 23 #[v, .int .u64 8] W fun e w' => e = .returned (.tuple #[.int .i64 1, .bool false]) ∧ Below W.heap.size W w') := fun v W h =>
    (findR v n0 8 W h n0_rises).mono fun e w' ⟨i, th, h1, h2, h3⟩ => by
      obtain ⟨rfl, rfl⟩ := n0_find h1
      exact ⟨h2, h3⟩
  have SM : Hid (∀ v u W, ND W v n0 → ND W u n0 → Calls Try.prog 18 #[v, u] W fun e w' => e = .returned (.bool true) ∧ Below W.heap.size W w') := fun v u W h k => by
    have := same v u n0 n0 W h k
    rw [n0_same] at this
    exact this
  have AT := Lib.hid n0_at
  have LN := Lib.hid n0_len
  have HL : n0.leaf = true := rfl
  generalize nB n0 = B0 at *
  clear hW1 hW2 hW3 hVR hAR b1 b2 b3 G1 G2 G12 N2
  go_enter Try.func8, Try.ntmps8
  go_upto_region 2 with (first
    | (refine wpList_bs rfl 22 1 (.const (.int .u64 7)) rfl rfl S1.out ?_; refine wpList_build1 rfl 54 0 (.const (.int .u8 1)) rfl rfl S2.out ?_; refine wpList_bs rfl 23 1 (.tmp 11) rfl (u := .agg VR) rfl S3.out ?_; refine wpList_build3 rfl 26 0 1 2 (.const (.bool true)) (.tmp 10) (.tmp 12) rfl rfl rfl rfl S4.out ?_)
    | (refine wpList_store_row rfl 26 (.tmp 1) (.tmp 13) rfl W2.heap.size AR rfl rfl 26 Z GN.out IA.out SA.out OA.out ?_; rw [RW.out]))
  try simp only [Act.put]
  clear S1 S2 S3 S4 RW GN
  generalize W2.heap.size = g1 at *
  go_wp2_with (refine wpList_load_row rfl 26 (.tmp 1) rfl g1 rfl 26 AR (0, 0) _ G3.out Try.underlying26 rfl IA.out ?_)
  refine (WR.out _ _ N3.out).mono ?_
  rintro e w4 ⟨q, rfl, sq, hb⟩
  have BE4 := Lib.hid (BE3.out.trans (hb.mono BE3.out.size))
  have G4 := Lib.hid ((hb.block _ (Array.getElem?_eq_some_iff.1 G3.out).1).trans G3.out)
  have N4 := Lib.hid (N3.out.below hb)
  have Q4 := Lib.hid sq
  clear sq hb BE3 G3 N3 WR
  go_wp2_with fail
  refine (RD.out _ _ Q4.out).mono ?_
  rintro e w5 ⟨u, rfl, hn, hb⟩
  obtain ⟨K, V, Q, rfl, hrest⟩ := id hn
  clear hrest
  obtain ⟨AS, hAS⟩ : ∃ AS : Array Value, AS = #[.bool n0.leaf, K, V, Q] := ⟨_, rfl⟩
  have IS : Hid ((Try.prog.info? 26).map (·.size) = some AS.size) := by show _ = _; rw [hAS]; exact size26' _ _ _ _
  have SS : Hid (Z.size = AS.size) := by show _ = _; rw [Z4.out, hAS]; rfl
  have OS : Hid (AS.all (·.oneCell') = true) := by
    show _ = _
    obtain ⟨_, _, _, e, hk, hv, hq, _⟩ := id hn
    obtain ⟨x1, n1, c1, rfl⟩ := hk.form
    obtain ⟨x2, n2, c2, rfl⟩ := hv.form
    obtain ⟨x3, n3, c3, rfl⟩ := hq.form
    cases e
    rw [hAS]; simp [Value.oneCell']
  rw [← hAS] at hn
  rw [← hAS]
  clear hAS HL
  have hal : Below w5.heap.size w5 (w5.alloc (.cells AS 26)) := (Below.refl _ _).alloc (Nat.le_refl _) _
  have hb6 := hb.trans (hal.mono hb.size)
  have GN := Lib.hid (heap_alloc_new w5 (.cells Z 26))
  have RW := Lib.hid (alloc_setRowT w5 Z AS 26 _ rfl)
  have H6 := Lib.hid (heap_alloc_new w5 (.cells AS 26))
  have M6 := Lib.hid (hn.below hal)
  have BE6 := Lib.hid (BE4.out.trans (hb6.mono BE4.out.size))
  have G6 := Lib.hid ((hb6.block _ (Array.getElem?_eq_some_iff.1 G4.out).1).trans G4.out)
  have N6 := Lib.hid (N4.out.below hb6)
  have Q6 := Lib.hid (Q4.out.below hb6)
  clear hb hn hal hb6 BE4 G4 N4 Q4 RD
  go_upto_region 4 with (refine wpList_store_row rfl 26 (.tmp 4) (.tmp 22) rfl w5.heap.size AS rfl rfl 26 Z GN.out IS.out SS.out OS.out ?_)
  rw [RW.out]
  try simp only [Act.put]
  generalize w5.alloc (.cells AS 26) = w6 at *
  generalize w5.heap.size = g4 at *
  clear GN RW
  go_wp2_with (refine wpList_blank rfl 26 rfl (hB.out _) ?_)
  refine (WZ.out _ _ (NZ.out _)).mono ?_
  rintro e w7 ⟨q7, rfl, hb⟩
  have BE7 := Lib.hid (BE6.out.trans (hb.mono BE6.out.size))
  have G7 := Lib.hid ((hb.block _ (Array.getElem?_eq_some_iff.1 G6.out).1).trans G6.out)
  have H7 := Lib.hid ((hb.block _ (Array.getElem?_eq_some_iff.1 H6.out).1).trans H6.out)
  have N7 := Lib.hid (N6.out.below hb)
  have M7 := Lib.hid (M6.out.below hb)
  have Q7 := Lib.hid (Q6.out.below hb)
  clear hb BE6 G6 H6 N6 M6 Q6 WZ NZ
  go_wp2_with (refine wpList_load_row rfl 26 (.tmp 1) rfl g1 rfl 26 AR (0, 0) _ G7.out Try.underlying26 rfl IA.out ?_)
  refine (FI.out _ _ N7.out).mono ?_
  rintro e w8 ⟨rfl, hb⟩
  have BE8 := Lib.hid (BE7.out.trans (hb.mono BE7.out.size))
  have G8 := Lib.hid ((hb.block _ (Array.getElem?_eq_some_iff.1 G7.out).1).trans G7.out)
  have H8 := Lib.hid ((hb.block _ (Array.getElem?_eq_some_iff.1 H7.out).1).trans H7.out)
  have N8 := Lib.hid (N7.out.below hb)
  have M8 := Lib.hid (M7.out.below hb)
  have Q8 := Lib.hid (Q7.out.below hb)
  clear hb BE7 G7 H7 N7 M7 Q7 FI
  obtain ⟨gq, oq, cq, rfl⟩ := Sees_block Q8.out LN.out
  have l0 := Sees_cell Q8.out 0 (by rw [LN.out]; decide)
  have l1 := Sees_cell Q8.out 1 (by rw [LN.out]; decide)
  have l15 := Sees_cell Q8.out 15 (by rw [LN.out]; decide)
  have l16 := Sees_cell Q8.out 16 (by rw [LN.out]; decide)
  rw [AT.out.1] at l0
  rw [AT.out.2.1] at l1
  rw [AT.out.2.2.1] at l15
  rw [AT.out.2.2.2] at l16
  simp only [Nat.add_zero] at l0
  clear AT LN Q8
  go_wp2_with (first
    | (refine wpList_load_met rfl 26 (.tmp 1) rfl g1 rfl 26 AR (0, 0) _ G8.out Try.underlying26 ⟨_, rfl⟩ IA.out ?_)
    | (refine wpList_load_met rfl 26 (.tmp 4) rfl g4 rfl 26 AS (0, 0) _ H8.out Try.underlying26 ⟨_, rfl⟩ IS.out ?_))
  refine (SM.out _ _ _ N8.out M8.out).mono ?_
  rintro e w9 ⟨rfl, hb⟩
  have BE9 := Lib.hid (BE8.out.trans (hb.mono BE8.out.size))
  clear hb
  go_wp2_with fail
  go_ret
  exact ⟨rfl, BE9.out⟩
end Go.Proofs.Ytnifaldgofmciaa
