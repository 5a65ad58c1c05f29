/-
  Contracts of the functions that the statements of package super go through: the document's bytes of a head. Condition: the numbers fit their kinds, the sum is 32 bytes.
-/
import Derived.Test.YtplffbpnjnbolaaSuI
namespace Go.Proofs.Ytplffbpnjnbolaa
open Go.RowKit octetPuts
theorem app' {w : World} {base n m c : Nat} {x : Option Addr} {u : Value} {xs ys : List Int} (h : Own w base (.slice x n c) xs) (hn : xs.length = n) (hs : Sees w u ys) (hm : ys.length = m) (hl : n + m ≤ 1000) (hbase : base ≤ w.heap.size) :
    ∃ x' c' w', (Builtin.append_ #[30, 30] 30 #[.slice x n c, u]).run Try.prog w = .ok (.slice x' (n + m) c') w' ∧ Own w' base (.slice x' (n + m) c') (xs ++ ys) ∧ (xs ++ ys).length = n + m ∧ Below base w w' := by
  obtain ⟨x', c', w', hr, ho, _, hb⟩ := app h hs (by omega) hbase
  rw [hn, hm] at hr ho
  exact ⟨x', c', w', hr, ho, by rw [List.length_append, hn, hm], hb⟩
theorem dcell {W : World} {b : Nat} {t : TypeId} {g e : Int} {h : Bool} {s : Int} {v : Value} (hh : W.heap[b]? = some (.cells (dcells g e h s v) t (0, 0))) :
    W.cell? ⟨b, 0, none⟩ = some (.int .u64 g) ∧ W.cell? ⟨b, 1, none⟩ = some (.int .u64 e) ∧ W.cell? ⟨b, 2, none⟩ = some (.bool h) ∧ W.cell? ⟨b, 3, none⟩ = some (.int .u32 s) ∧ W.cell? ⟨b, 4, none⟩ = some v := by
  refine ⟨?_, ?_, ?_, ?_, ?_⟩ <;> rw [cell_of_row _ _ _ _ _ _ hh] <;> rfl
theorem padV_of {xs : List Int} {n m : Nat} (h : xs.length = n) (hn : n ≤ m) (hm : m ≤ 65536) : padE xs.length (m : Int) = 0 ∧ padV xs (m : Int) = xs ++ zs (m - n) := by
  have e : padE xs.length (m : Int) = 0 := by
    unfold padE
    rw [if_neg (by omega), if_neg (by omega)]
  refine ⟨e, ?_⟩
  unfold padV
  rw [if_pos e, h]
  rfl
theorem be_one : be 8 1 = [0, 0, 0, 0, 0, 0, 0, 1] := by decide
theorem be_zero : be 8 0 = zs 8 := by decide
set_option maxRecDepth 100000 in
set_option maxHeartbeats 4000000 in
theorem refWH_no (H : Hd) (hm : ¬ H.may) (hs0 : 0 ≤ H.s) (x : Option Addr) (c : Nat) (w : World) (h : Sees w (.slice x 32 c) H.z) (hl : H.z.length = 32) : Calls Try.prog 13 #[.agg (dcells H.g H.e H.h H.s (.slice x 32 c))] w (WriteHP w H) := by
  have hh : H.h = false := by
    cases h : H.h with
    | true => exact absurd (.inl h) hm
    | false => rfl
  have HDC := Lib.hid (fun (W : World) (b : Nat) (hw : W.heap[b]? = some (.cells (dcells H.g H.e H.h H.s (.slice x 32 c)) 37 (0, 0))) => dcell hw)
  generalize dcells H.g H.e H.h H.s (.slice x 32 c) = DC at *
  obtain ⟨_, _, c2, c3, c4⟩ := HDC.out _ _ (heap_alloc_new w (.cells DC 37))
  have BE : Hid (Below w.heap.size w (w.alloc (.cells DC 37))) := (Below.refl _ _).alloc (Nat.le_refl _) _
  have NO := Lib.hid (fun W' hb => writeHP_no (H := H) (w := w) (w' := W') hm hb)
  have SV := Lib.hid (h.below BE.out)
  rw [hh] at c2
  by_cases hs : H.s = 0
  · have hz : H.z ≠ zs 32 := fun e => hm (.inr ⟨hs, e⟩)
    have NF : Hid (decide (H.z = zs H.z.length) = false) := by show _ = _; rw [hl]; exact decide_eq_false hz
    rw [hs] at c3
    clear hm hh hs hz hs0 h HDC
    go_enter Try.func13, Try.ntmps13
    go_wp2_with fail
    refine (nought _ _ _ SV.out).mono ?_
    rw [NF.out]
    rintro e w' ⟨rfl, rfl⟩
    go_wp2_with fail
    go_ret2
    exact NO.out _ BE.out
  · have hs2 : (0 : Int) < H.s := by omega
    clear hm hh hs h HDC
    go_enter Try.func13, Try.ntmps13
    go_wp2_with fail
    go_ret2
    exact NO.out _ BE.out
set_option maxRecDepth 100000 in
set_option maxHeartbeats 8000000 in
theorem refWH_yes (H : Hd) (hH : H.ok) (hm : H.may) (x : Option Addr) (c : Nat) (w : World) (h : Sees w (.slice x 32 c) H.z) : Calls Try.prog 13 #[.agg (dcells H.g H.e H.h H.s (.slice x 32 c))] w (WriteHP w H) := by
  obtain ⟨hg, he, hs, hz, hl⟩ := hH
  have HDC := Lib.hid (fun (W : World) (b : Nat) (hw : W.heap[b]? = some (.cells (dcells H.g H.e H.h H.s (.slice x 32 c)) 37 (0, 0))) => dcell hw)
  generalize dcells H.g H.e H.h H.s (.slice x 32 c) = DC at *
  have GB := Lib.hid (heap_alloc_new w (.cells DC 37))
  obtain ⟨_, _, c2, c3, c4⟩ := HDC.out _ _ GB.out
  have B0 : Hid (Below w.heap.size w (w.alloc (.cells DC 37))) := (Below.refl _ _).alloc (Nat.le_refl _) _
  have SV0 := Lib.hid h
  have SV := Lib.hid (h.below B0.out)
  have RG : Hid (∀ W, Calls Try.prog 37 #[.int .u64 H.g, .int .i64 8] W (OwnP W (be 8 H.g))) := fun W => refBytes8 _ hg.1 hg.2 W
  have RE : Hid (∀ W, Calls Try.prog 37 #[.int .u64 H.e, .int .i64 8] W (OwnP W (be 8 H.e))) := fun W => refBytes8 _ he.1 he.2 W
  have RS : Hid (∀ W, Calls Try.prog 37 #[.int .u64 H.s, .int .i64 4] W (OwnP W (be 4 H.s))) := fun W => refBytes4 _ hs.1 (by omega) W
  have LB := Lib.hid be_len
  have LZ := Lib.hid hl
  have s0 := hs.1
  have s1 := hs.2
  have YES : Hid (∀ v W', Sees W' v (hW H) → Below w.heap.size w W' → WriteHP w H (.returned (.tuple #[v, .int .i64 0])) W') := fun v W' hs hb => writeHP_yes hm hs hb
  have EB : Hid (fr8 ++ be 8 H.g ++ be 8 H.e ++ be 8 (b2i H.h) ++ be 4 H.s ++ H.z = hB H) := by show _ = _; simp [hB, hP]
  have EW : Hid (hB H ++ zs (512 - 68) = hW H) := rfl
  cases hh : H.h with
  | true =>
    rw [hh] at c2 EB
    rw [show b2i true = 1 from rfl] at EB
    clear hg he hs hz hl hm h
    obtain ⟨W1, hW1⟩ : ∃ W1, W1 = (w.alloc (.cells DC 37)).alloc (.cells #[.int .u8 67, .int .u8 77, .int .u8 72, .int .u8 49, .int .u8 0, .int .u8 0, .int .u8 0, .int .u8 0] 5) := ⟨_, rfl⟩
    have SZ0 : Hid ((w.alloc (.cells DC 37)).heap.size = w.heap.size + 1) := by show _ = _; simp
    have O1 : Hid (Own W1 (w.heap.size + 1) (.slice (some ⟨w.heap.size + 1, 0, none⟩) 8 8) fr8) := by
      rw [hW1, ← SZ0.out]; exact own_row _ _ fr8 (byt_of _ rfl) (by decide) (Nat.le_refl _) 8 rfl
    have L1 : Hid (fr8.length = 8) := rfl
    have hal : Below (w.alloc (.cells DC 37)).heap.size (w.alloc (.cells DC 37)) W1 := by rw [hW1]; exact (Below.refl _ _).alloc (Nat.le_refl _) _
    have G1 := Lib.hid ((hal.block _ (blk_lt GB.out)).trans GB.out)
    have B1 := Lib.hid (B0.out.trans (hal.mono B0.out.size))
    have Z1 : Hid (w.heap.size + 1 ≤ W1.heap.size) := by have := hal.size; rw [SZ0.out] at this; exact this
    have d0 := (HDC.out _ _ G1.out).1
    have HW1 := Lib.hid hW1
    rw [hW1] at d0
    clear hW1 hal
    go_enter Try.func13, Try.ntmps13
    go_wp2_with fail
    rw [← HW1.out]
    clear d0 c2 c3 c4 B0 GB HW1 SV SZ0
    refine (RG.out _).mono ?_
    rintro e V1 ⟨y1, cy1, rfl, hy, hb⟩
    have hO := O1.out.below hb
    have G1v := Lib.hid ((hb.block _ (blk_lt G1.out)).trans G1.out)
    have B1v := Lib.hid (B1.out.trans (hb.mono B1.out.size))
    have Z1v : Hid (w.heap.size + 1 ≤ V1.heap.size) := Nat.le_trans Z1.out hb.size
    obtain ⟨x2, c2, W2, hr, ho, hlen, hbb⟩ := app' hO L1.out hy.sees (LB.out 8 _) (by decide) Z1v.out
    rw [LB.out] at *
    have R1 := Lib.hid hr
    have O2 := Lib.hid ho
    have L2 := Lib.hid hlen
    have G2 := Lib.hid ((hbb.block _ (Nat.lt_succ_self _)).trans G1v.out)
    have B2 := Lib.hid (B1v.out.trans (hbb.mono (Nat.le_succ _)))
    have Z2 : Hid (w.heap.size + 1 ≤ W2.heap.size) := Nat.le_trans Z1v.out hbb.size
    clear hy hb hO hr ho hlen hbb O1 L1 G1 B1 Z1 G1v B1v Z1v
    have d1 := (HDC.out _ _ G2.out).2.1
    go_wp2_with (at_builtin; refine wpList_app rfl (.tmp 21) (.tmp 24) rfl rfl rfl rfl R1.out ?_)
    clear d1
    refine (RE.out _).mono ?_
    rintro e V2 ⟨y2, cy2, rfl, hy, hb⟩
    have hO := O2.out.below hb
    have G2v := Lib.hid ((hb.block _ (blk_lt G2.out)).trans G2.out)
    have B2v := Lib.hid (B2.out.trans (hb.mono B2.out.size))
    have Z2v : Hid (w.heap.size + 1 ≤ V2.heap.size) := Nat.le_trans Z2.out hb.size
    obtain ⟨x3, c3, W3, hr, ho, hlen, hbb⟩ := app' hO L2.out hy.sees (LB.out 8 _) (by decide) Z2v.out
    rw [LB.out] at *
    have R2 := Lib.hid hr
    have O3 := Lib.hid ho
    have L3 := Lib.hid hlen
    have G3 := Lib.hid ((hbb.block _ (Nat.lt_succ_self _)).trans G2v.out)
    have B3 := Lib.hid (B2v.out.trans (hbb.mono (Nat.le_succ _)))
    have Z3 : Hid (w.heap.size + 1 ≤ W3.heap.size) := Nat.le_trans Z2v.out hbb.size
    clear hy hb hO hr ho hlen hbb O2 L2 G2 B2 Z2 G2v B2v Z2v
    have d2 := (HDC.out _ _ G3.out).2.2.1
    rw [hh] at d2
    have hz8 : (W3.alloc (.cells #[.int .u8 0, .int .u8 0, .int .u8 0, .int .u8 0, .int .u8 0, .int .u8 0, .int .u8 0, .int .u8 0] 5)).cell? ⟨w.heap.size, 2, none⟩ = some (.bool true) := (((Below.refl W3.heap.size W3).alloc (Nat.le_refl _) (.cells #[.int .u8 0, .int .u8 0, .int .u8 0, .int .u8 0, .int .u8 0, .int .u8 0, .int .u8 0, .int .u8 0] 5)).cell (World.block_lt_of_cell? W3 _ d2)).trans d2
    have hc7 : (W3.alloc (.cells #[.int .u8 0, .int .u8 0, .int .u8 0, .int .u8 0, .int .u8 0, .int .u8 0, .int .u8 0, .int .u8 0] 5)).cell? ⟨W3.heap.size, 7, none⟩ = some (.int .u8 0) := by rw [cell_of_row _ _ _ _ _ _ (heap_alloc_new W3 _)]; rfl
    have hf7 : (W3.alloc (.cells #[.int .u8 0, .int .u8 0, .int .u8 0, .int .u8 0, .int .u8 0, .int .u8 0, .int .u8 0, .int .u8 0] 5)).frozen? ⟨W3.heap.size, 7, none⟩ = false := frozen_block (heap_alloc_new W3 _) 7
    have hst : (W3.alloc (.cells #[.int .u8 0, .int .u8 0, .int .u8 0, .int .u8 0, .int .u8 0, .int .u8 0, .int .u8 0, .int .u8 0] 5)).setCell ⟨W3.heap.size, 7, none⟩ (.int .u8 1) = W3.alloc (.cells (bcells (be 8 1)) 5) := by
      rw [setCell_eq_setRow _ _ _ _ _ _ _ (heap_alloc_new W3 _), alloc_setRowT _ _ _ _ _ rfl, be_one]
      rfl
    obtain ⟨W4, hW4⟩ : ∃ W4, W4 = W3.alloc (.cells (bcells (be 8 1)) 5) := ⟨_, rfl⟩
    have hal : Below W3.heap.size W3 W4 := by rw [hW4]; exact (Below.refl _ _).alloc (Nat.le_refl _) _
    have S4 : Sees W4 (.slice (some ⟨W3.heap.size, 0, none⟩) 8 8) (be 8 1) := by rw [hW4]; exact sees_new W3 _ _ rfl (be_byt _ _) (by rw [LB.out]; decide) _ rfl _ (LB.out _ _).symm
    have G4 := Lib.hid ((hal.block _ (blk_lt G3.out)).trans G3.out)
    have B4 := Lib.hid (B3.out.trans (hal.mono B3.out.size))
    have Z4 : Hid (w.heap.size + 1 ≤ W4.heap.size) := Nat.le_trans Z3.out hal.size
    obtain ⟨x5, c5, W5, hr, ho, hlen, hbb⟩ := app' (O3.out.below hal) L3.out S4 (LB.out 8 _) (by decide) Z4.out
    have R4 := Lib.hid hr
    have O5 := Lib.hid ho
    have L5 := Lib.hid hlen
    have G5 := Lib.hid ((hbb.block _ (Nat.lt_succ_self _)).trans G4.out)
    have B5 := Lib.hid (B4.out.trans (hbb.mono (Nat.le_succ _)))
    have Z5 : Hid (w.heap.size + 1 ≤ W5.heap.size) := Nat.le_trans Z4.out hbb.size
    have d3 := (HDC.out _ _ G5.out).2.2.2.1
    clear hr ho hlen hbb hal S4 O3 L3 G3 B3 Z3 G4 B4 Z4
    rw [← hW4] at hst
    clear hW4
    go_wp2_with (first
      | (at_builtin; refine wpList_app rfl (.tmp 26) (.tmp 29) rfl rfl rfl rfl R2.out ?_)
      | (at_builtin; refine wpList_app rfl (.tmp 36) (.tmp 37) rfl rfl rfl rfl R4.out ?_))
    clear d2 d3
    refine (RS.out _).mono ?_
    rintro e V5 ⟨y5, cy5, rfl, hy, hb⟩
    have hO := O5.out.below hb
    have G5v := Lib.hid ((hb.block _ (blk_lt G5.out)).trans G5.out)
    have B5v := Lib.hid (B5.out.trans (hb.mono B5.out.size))
    have Z5v : Hid (w.heap.size + 1 ≤ V5.heap.size) := Nat.le_trans Z5.out hb.size
    obtain ⟨x6, c6, W6, hr, ho, hlen, hbb⟩ := app' hO L5.out hy.sees (LB.out 4 _) (by decide) Z5v.out
    rw [LB.out] at *
    have R5 := Lib.hid hr
    have O6 := Lib.hid ho
    have L6 := Lib.hid hlen
    have G6 := Lib.hid ((hbb.block _ (Nat.lt_succ_self _)).trans G5v.out)
    have B6 := Lib.hid (B5v.out.trans (hbb.mono (Nat.le_succ _)))
    have Z6 : Hid (w.heap.size + 1 ≤ W6.heap.size) := Nat.le_trans Z5v.out hbb.size
    clear hy hb hO hr ho hlen hbb O5 L5 G5 B5 Z5 G5v B5v Z5v
    have d4 := (HDC.out _ _ G6.out).2.2.2.2
    obtain ⟨x7, c7, W7, hr, ho, hlen, hbb⟩ := app' O6.out L6.out (SV0.out.below B6.out) LZ.out (by decide) Z6.out
    have R6 := Lib.hid hr
    have O7 := Lib.hid ho
    have L7 := Lib.hid hlen
    have B7 := Lib.hid (B6.out.trans (hbb.mono (Nat.le_succ _)))
    clear hr ho hlen hbb O6 L6 G6 B6 Z6
    go_wp2_with (first
      | (at_builtin; refine wpList_app rfl (.tmp 39) (.tmp 43) rfl rfl rfl rfl R5.out ?_)
      | (at_builtin; refine wpList_app rfl (.tmp 45) (.tmp 47) rfl rfl rfl rfl R6.out ?_))
    refine (refPad _ _ 512 (by rw [L7.out]; decide) (by decide) _ O7.out.sees).mono ?_
    rintro e W8 ⟨v, he, hs, hb⟩
    have hp := padV_of (m := 512) L7.out (by decide) (by decide)
    have B8 := Lib.hid (B7.out.trans (hb.mono B7.out.size))
    rw [show ((512 : Nat) : Int) = 512 from rfl] at hp
    rw [hp.1] at he
    rw [hp.2, EB.out] at hs
    subst he
    have HS := Lib.hid (YES.out v W8 hs B8.out)
    clear hs hb hp
    go_wp2_with fail
    go_ret2
    exact HS.out
  | false =>
    have hsz : H.s = 0 ∧ H.z = zs 32 := by
      rcases hm with h1 | h1
      · rw [hh] at h1; cases h1
      · exact h1
    have NT : Hid (decide (H.z = zs H.z.length) = true) := by show _ = _; rw [hl]; exact decide_eq_true hsz.2
    rw [hh] at c2 EB
    rw [show b2i false = 0 from rfl] at EB
    rw [hsz.1] at c3
    have HS0 := Lib.hid hsz.1
    clear hg he hs hz hl hm h hsz
    obtain ⟨W1, hW1⟩ : ∃ W1, W1 = (w.alloc (.cells DC 37)).alloc (.cells #[.int .u8 67, .int .u8 77, .int .u8 72, .int .u8 49, .int .u8 0, .int .u8 0, .int .u8 0, .int .u8 0] 5) := ⟨_, rfl⟩
    have SZ0 : Hid ((w.alloc (.cells DC 37)).heap.size = w.heap.size + 1) := by show _ = _; simp
    have O1 : Hid (Own W1 (w.heap.size + 1) (.slice (some ⟨w.heap.size + 1, 0, none⟩) 8 8) fr8) := by
      rw [hW1, ← SZ0.out]; exact own_row _ _ fr8 (byt_of _ rfl) (by decide) (Nat.le_refl _) 8 rfl
    have L1 : Hid (fr8.length = 8) := rfl
    have hal : Below (w.alloc (.cells DC 37)).heap.size (w.alloc (.cells DC 37)) W1 := by rw [hW1]; exact (Below.refl _ _).alloc (Nat.le_refl _) _
    have G1 := Lib.hid ((hal.block _ (blk_lt GB.out)).trans GB.out)
    have B1 := Lib.hid (B0.out.trans (hal.mono B0.out.size))
    have Z1 : Hid (w.heap.size + 1 ≤ W1.heap.size) := by have := hal.size; rw [SZ0.out] at this; exact this
    have d0 := (HDC.out _ _ G1.out).1
    have HW1 := Lib.hid hW1
    rw [hW1] at d0
    clear hW1 hal
    go_enter Try.func13, Try.ntmps13
    go_wp2_with fail
    refine (nought _ _ _ SV.out).mono ?_
    rw [NT.out]
    rintro e w' ⟨rfl, rfl⟩
    go_wp2_with fail
    rw [← HW1.out]
    clear d0 c2 c3 c4 B0 GB HW1 SV SZ0
    refine (RG.out _).mono ?_
    rintro e V1 ⟨y1, cy1, rfl, hy, hb⟩
    have hO := O1.out.below hb
    have G1v := Lib.hid ((hb.block _ (blk_lt G1.out)).trans G1.out)
    have B1v := Lib.hid (B1.out.trans (hb.mono B1.out.size))
    have Z1v : Hid (w.heap.size + 1 ≤ V1.heap.size) := Nat.le_trans Z1.out hb.size
    obtain ⟨x2, c2, W2, hr, ho, hlen, hbb⟩ := app' hO L1.out hy.sees (LB.out 8 _) (by decide) Z1v.out
    rw [LB.out] at *
    have R1 := Lib.hid hr
    have O2 := Lib.hid ho
    have L2 := Lib.hid hlen
    have G2 := Lib.hid ((hbb.block _ (Nat.lt_succ_self _)).trans G1v.out)
    have B2 := Lib.hid (B1v.out.trans (hbb.mono (Nat.le_succ _)))
    have Z2 : Hid (w.heap.size + 1 ≤ W2.heap.size) := Nat.le_trans Z1v.out hbb.size
    clear hy hb hO hr ho hlen hbb O1 L1 G1 B1 Z1 G1v B1v Z1v
    have d1 := (HDC.out _ _ G2.out).2.1
    go_wp2_with (at_builtin; refine wpList_app rfl (.tmp 21) (.tmp 24) rfl rfl rfl rfl R1.out ?_)
    clear d1
    refine (RE.out _).mono ?_
    rintro e V2 ⟨y2, cy2, rfl, hy, hb⟩
    have hO := O2.out.below hb
    have G2v := Lib.hid ((hb.block _ (blk_lt G2.out)).trans G2.out)
    have B2v := Lib.hid (B2.out.trans (hb.mono B2.out.size))
    have Z2v : Hid (w.heap.size + 1 ≤ V2.heap.size) := Nat.le_trans Z2.out hb.size
    obtain ⟨x3, c3, W3, hr, ho, hlen, hbb⟩ := app' hO L2.out hy.sees (LB.out 8 _) (by decide) Z2v.out
    rw [LB.out] at *
    have R2 := Lib.hid hr
    have O3 := Lib.hid ho
    have L3 := Lib.hid hlen
    have G3 := Lib.hid ((hbb.block _ (Nat.lt_succ_self _)).trans G2v.out)
    have B3 := Lib.hid (B2v.out.trans (hbb.mono (Nat.le_succ _)))
    have Z3 : Hid (w.heap.size + 1 ≤ W3.heap.size) := Nat.le_trans Z2v.out hbb.size
    clear hy hb hO hr ho hlen hbb O2 L2 G2 B2 Z2 G2v B2v Z2v
    have d2 := (HDC.out _ _ G3.out).2.2.1
    rw [hh] at d2
    have hz8 : (W3.alloc (.cells #[.int .u8 0, .int .u8 0, .int .u8 0, .int .u8 0, .int .u8 0, .int .u8 0, .int .u8 0, .int .u8 0] 5)).cell? ⟨w.heap.size, 2, none⟩ = some (.bool false) := (((Below.refl W3.heap.size W3).alloc (Nat.le_refl _) (.cells #[.int .u8 0, .int .u8 0, .int .u8 0, .int .u8 0, .int .u8 0, .int .u8 0, .int .u8 0, .int .u8 0] 5)).cell (World.block_lt_of_cell? W3 _ d2)).trans d2
    obtain ⟨W4, hW4⟩ : ∃ W4, W4 = W3.alloc (.cells (bcells (be 8 0)) 5) := ⟨_, rfl⟩
    have hal : Below W3.heap.size W3 W4 := by rw [hW4]; exact (Below.refl _ _).alloc (Nat.le_refl _) _
    have S4 : Sees W4 (.slice (some ⟨W3.heap.size, 0, none⟩) 8 8) (be 8 0) := by rw [hW4]; exact sees_new W3 _ _ rfl (be_byt _ _) (by rw [LB.out]; decide) _ rfl _ (LB.out _ _).symm
    have G4 := Lib.hid ((hal.block _ (blk_lt G3.out)).trans G3.out)
    have B4 := Lib.hid (B3.out.trans (hal.mono B3.out.size))
    have Z4 : Hid (w.heap.size + 1 ≤ W4.heap.size) := Nat.le_trans Z3.out hal.size
    obtain ⟨x5, c5, W5, hr, ho, hlen, hbb⟩ := app' (O3.out.below hal) L3.out S4 (LB.out 8 _) (by decide) Z4.out
    have R4 := Lib.hid hr
    have O5 := Lib.hid ho
    have L5 := Lib.hid hlen
    have G5 := Lib.hid ((hbb.block _ (Nat.lt_succ_self _)).trans G4.out)
    have B5 := Lib.hid (B4.out.trans (hbb.mono (Nat.le_succ _)))
    have Z5 : Hid (w.heap.size + 1 ≤ W5.heap.size) := Nat.le_trans Z4.out hbb.size
    have d3 := (HDC.out _ _ G5.out).2.2.2.1
    clear hr ho hlen hbb hal S4 O3 L3 G3 B3 Z3 G4 B4 Z4
    rw [be_zero] at hW4
    have E4 : Hid (W4 = W3.alloc (.cells #[.int .u8 0, .int .u8 0, .int .u8 0, .int .u8 0, .int .u8 0, .int .u8 0, .int .u8 0, .int .u8 0] 5)) := hW4
    clear hW4
    go_wp2_with (first
      | (at_builtin; refine wpList_app rfl (.tmp 26) (.tmp 29) rfl rfl rfl rfl R2.out ?_)
      | (at_builtin; refine wpList_app rfl (.tmp 36) (.tmp 37) rfl rfl rfl rfl (by have := R4.out; rw [E4.out] at this; exact this) ?_))
    clear d2 d3
    refine (RS.out _).mono ?_
    rintro e V5 ⟨y5, cy5, rfl, hy, hb⟩
    have hO := O5.out.below hb
    have G5v := Lib.hid ((hb.block _ (blk_lt G5.out)).trans G5.out)
    have B5v := Lib.hid (B5.out.trans (hb.mono B5.out.size))
    have Z5v : Hid (w.heap.size + 1 ≤ V5.heap.size) := Nat.le_trans Z5.out hb.size
    obtain ⟨x6, c6, W6, hr, ho, hlen, hbb⟩ := app' hO L5.out hy.sees (LB.out 4 _) (by decide) Z5v.out
    rw [LB.out] at *
    have R5 := Lib.hid hr
    have O6 := Lib.hid ho
    have L6 := Lib.hid hlen
    have G6 := Lib.hid ((hbb.block _ (Nat.lt_succ_self _)).trans G5v.out)
    have B6 := Lib.hid (B5v.out.trans (hbb.mono (Nat.le_succ _)))
    have Z6 : Hid (w.heap.size + 1 ≤ W6.heap.size) := Nat.le_trans Z5v.out hbb.size
    clear hy hb hO hr ho hlen hbb O5 L5 G5 B5 Z5 G5v B5v Z5v
    have d4 := (HDC.out _ _ G6.out).2.2.2.2
    obtain ⟨x7, c7, W7, hr, ho, hlen, hbb⟩ := app' O6.out L6.out (SV0.out.below B6.out) LZ.out (by decide) Z6.out
    have R6 := Lib.hid hr
    have O7 := Lib.hid ho
    have L7 := Lib.hid hlen
    have B7 := Lib.hid (B6.out.trans (hbb.mono (Nat.le_succ _)))
    clear hr ho hlen hbb O6 L6 G6 B6 Z6
    go_wp2_with (first
      | (at_builtin; refine wpList_app rfl (.tmp 39) (.tmp 43) rfl rfl rfl rfl R5.out ?_)
      | (at_builtin; refine wpList_app rfl (.tmp 45) (.tmp 47) rfl rfl rfl rfl R6.out ?_))
    refine (refPad _ _ 512 (by rw [L7.out]; decide) (by decide) _ O7.out.sees).mono ?_
    rintro e W8 ⟨v, he, hs, hb⟩
    have hp := padV_of (m := 512) L7.out (by decide) (by decide)
    have B8 := Lib.hid (B7.out.trans (hb.mono B7.out.size))
    rw [show ((512 : Nat) : Int) = 512 from rfl] at hp
    rw [hp.1] at he
    rw [hp.2, EB.out] at hs
    subst he
    have HS := Lib.hid (YES.out v W8 hs B8.out)
    clear hs hb hp
    go_wp2_with fail
    go_ret2
    exact HS.out
theorem refWH (H : Hd) (hH : H.ok) (x : Option Addr) (c : Nat) (w : World) (h : Sees w (.slice x 32 c) H.z) : Calls Try.prog 13 #[.agg (dcells H.g H.e H.h H.s (.slice x 32 c))] w (WriteHP w H) := by
  by_cases hm : H.may
  · exact refWH_yes H hH hm x c w h
  · exact refWH_no H hm hH.2.2.1.1 x c w h hH.2.2.2.2
end Go.Proofs.Ytplffbpnjnbolaa
