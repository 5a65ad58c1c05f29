/-
  Contracts of the functions that the statements of package super go through: the document's bytes of a register. Condition: the numbers fit their kinds, the sum is 32 bytes.
-/
import Derived.Test.YtplffbpnjnbolaaSuK
namespace Go.Proofs.Ytplffbpnjnbolaa
open Go.RowKit octetPuts
theorem qcell {W : World} {b : Nat} {t : TypeId} {g e k : Int} {v : Value} (hh : W.heap[b]? = some (.cells (qcells v g e k) t (0, 0))) :
    W.cell? ⟨b, 0, none⟩ = some v ∧ W.cell? ⟨b, 1, none⟩ = some (.int .u64 g) ∧ W.cell? ⟨b, 2, none⟩ = some (.int .u64 e) ∧ W.cell? ⟨b, 3, none⟩ = some (.int .u8 k) := by
  refine ⟨?_, ?_, ?_, ?_⟩ <;> rw [cell_of_row _ _ _ _ _ _ hh] <;> rfl
def RefWGP (w : World) (R : Rg) (e : Ending) (w' : World) : Prop := ∃ v, e = .returned (.tuple #[v, .int .i64 (gE R)]) ∧ Sees w' v (gV R) ∧ Below w.heap.size w w'
theorem mk64 (w : World) : (Instr.makeSlice 30 (.int .i64 64) (.int .i64 64)).run Try.prog w = .ok (.slice (some ⟨w.heap.size, 0, none⟩) 64 64) (w.alloc (.cells (bcells (zs 64)) 5)) := mkN 64 (by decide) w
set_option maxRecDepth 100000 in
set_option maxHeartbeats 4000000 in
theorem refWG_no (R : Rg) (hk : ¬ R.k ≤ 1) (x : Option Addr) (c : Nat) (w : World) : Calls Try.prog 19 #[.agg (qcells (.slice x 32 c) R.g R.e R.k)] w (RefWGP w R) := by
  have HDC := Lib.hid (fun (W : World) (b : Nat) (hw : W.heap[b]? = some (.cells (qcells (.slice x 32 c) R.g R.e R.k) 52 (0, 0))) => qcell hw)
  have NO : Hid (∀ W, Below w.heap.size w W → RefWGP w R (.returned (.tuple #[.slice (some ⟨W.heap.size, 0, none⟩) 64 64, .int .i64 3])) (W.alloc (.cells (bcells (zs 64)) 5))) := fun W hb => by
    unfold RefWGP gE gV
    rw [if_neg hk, if_neg hk]
    exact ⟨_, rfl, sees_new W _ _ rfl (zs_byt _) (by rw [zs_len]; decide) _ rfl _ (zs_len _).symm, hb.alloc hb.size _⟩
  generalize qcells (.slice x 32 c) R.g R.e R.k = DC at *
  obtain ⟨_, _, _, c3⟩ := HDC.out _ _ (heap_alloc_new w (.cells DC 52))
  have BE : Hid (Below w.heap.size w (w.alloc (.cells DC 52))) := (Below.refl _ _).alloc (Nat.le_refl _) _
  have hk3 : (1 : Int) < R.k := by omega
  have hm := mk64
  have y := NO.out _ BE.out
  rw [show (w.alloc (.cells DC 52)).heap.size = w.heap.size + 1 by simp] at y
  have Y := Lib.hid y
  clear hk NO HDC y
  go_enter Try.func19, Try.ntmps19
  go_wp2_with fail
  go_ret2
  exact Y.out
set_option maxRecDepth 100000 in
set_option maxHeartbeats 8000000 in
theorem refWG_yes (R : Rg) (hR : R.ok) (hk : R.k ≤ 1) (x : Option Addr) (c : Nat) (w : World) (h : Sees w (.slice x 32 c) R.z) : Calls Try.prog 19 #[.agg (qcells (.slice x 32 c) R.g R.e R.k)] w (RefWGP w R) := by
  obtain ⟨hg, he, hw, hz, hl⟩ := hR
  have HDC := Lib.hid (fun (W : World) (b : Nat) (hw : W.heap[b]? = some (.cells (qcells (.slice x 32 c) R.g R.e R.k) 52 (0, 0))) => qcell hw)
  generalize qcells (.slice x 32 c) R.g R.e R.k = DC at *
  have GB := Lib.hid (heap_alloc_new w (.cells DC 52))
  obtain ⟨c0, _, _, c3⟩ := HDC.out _ _ GB.out
  have B0 : Hid (Below w.heap.size w (w.alloc (.cells DC 52))) := (Below.refl _ _).alloc (Nat.le_refl _) _
  have SV := Lib.hid (h.below B0.out)
  have RG : Hid (∀ W, Calls Try.prog 37 #[.int .u64 R.g, .int .i64 8] W (OwnP W (be 8 R.g))) := fun W => refBytes8 _ hg.1 hg.2 W
  have RE : Hid (∀ W, Calls Try.prog 37 #[.int .u64 R.e, .int .i64 8] W (OwnP W (be 8 R.e))) := fun W => refBytes8 _ he.1 he.2 W
  have CP : Hid (∀ v W, Sees W v R.z → Calls Try.prog 46 #[v] W (OwnP W R.z)) := fun v W hs => copy v _ (by rw [hl]; decide) W hs
  have LB := Lib.hid be_len
  have LZ := Lib.hid hl
  have KB := Lib.hid hw
  have YES : Hid (∀ v W', Sees W' v (gW R) → Below w.heap.size w W' → RefWGP w R (.returned (.tuple #[v, .int .i64 0])) W') := fun v W' hs hb => by
    unfold RefWGP gE gV
    rw [if_pos hk, if_pos hk]
    exact ⟨v, rfl, hs, hb⟩
  have BK : Hid (be 1 R.k = [R.k]) := by
    show _ = _
    simp only [be, List.nil_append]
    rw [show R.k % 256 = R.k by omega]
  have EB : Hid (R.z ++ be 8 R.g ++ be 8 R.e ++ [R.k] = gB R) := by show _ = _; rw [← BK.out]; simp [gB, gP]
  have hk2 : ¬ (1 : Int) < R.k := by omega
  clear hg he hw hz hl h hk
  go_enter Try.func19, Try.ntmps19
  go_wp2_with fail
  refine (CP.out _ _ SV.out).mono ?_
  rintro e W1 ⟨x1, c1, rfl, ho, hb⟩
  have SZ0 : Hid ((w.alloc (.cells DC 52)).heap.size = w.heap.size + 1) := by show _ = _; simp
  rw [LZ.out] at ho ⊢
  have O1 : Hid (Own W1 (w.heap.size + 1) (.slice x1 32 c1) R.z) := by show Own _ _ _ _; rw [← SZ0.out]; exact ho
  have L1 := Lib.hid LZ.out
  have G1 := Lib.hid ((hb.block _ (blk_lt GB.out)).trans GB.out)
  have B1 := Lib.hid (B0.out.trans (hb.mono B0.out.size))
  have Z1 : Hid (w.heap.size + 1 ≤ W1.heap.size) := by have := hb.size; rw [SZ0.out] at this; exact this
  have d1 := (HDC.out _ _ G1.out).2.1
  clear ho hb GB B0 SV SZ0 c0 c3
  go_wp2_with fail
  refine (RG.out _).mono ?_
  rintro e V1 ⟨y1, cy1, rfl, hy, hb⟩
  have hO := O1.out.below hb
  have G1v := Lib.hid ((hb.block _ (blk_lt G1.out)).trans G1.out)
  have B1v := Lib.hid (B1.out.trans (hb.mono B1.out.size))
  have Z1v : Hid (w.heap.size + 1 ≤ V1.heap.size) := Nat.le_trans Z1.out hb.size
  obtain ⟨x2, c2, W2, hr, ho, hlen, hbb⟩ := app' hO L1.out hy.sees (LB.out 8 _) (by decide) Z1v.out
  rw [LB.out] at *
  have R1 := Lib.hid hr
  have O2 := Lib.hid ho
  have L2 := Lib.hid hlen
  have G2 := Lib.hid ((hbb.block _ (Nat.lt_succ_self _)).trans G1v.out)
  have B2 := Lib.hid (B1v.out.trans (hbb.mono (Nat.le_succ _)))
  have Z2 : Hid (w.heap.size + 1 ≤ W2.heap.size) := Nat.le_trans Z1v.out hbb.size
  clear hy hb hO hr ho hlen hbb O1 L1 G1 B1 Z1 G1v B1v Z1v
  have d2 := (HDC.out _ _ G2.out).2.2.1
  clear d1
  go_wp2_with (at_builtin; refine wpList_app rfl (.tmp 12) (.tmp 15) rfl rfl rfl rfl R1.out ?_)
  refine (RE.out _).mono ?_
  rintro e V2 ⟨y2, cy2, rfl, hy, hb⟩
  have hO := O2.out.below hb
  have G2v := Lib.hid ((hb.block _ (blk_lt G2.out)).trans G2.out)
  have B2v := Lib.hid (B2.out.trans (hb.mono B2.out.size))
  have Z2v : Hid (w.heap.size + 1 ≤ V2.heap.size) := Nat.le_trans Z2.out hb.size
  obtain ⟨x3, c3, W3, hr, ho, hlen, hbb⟩ := app' hO L2.out hy.sees (LB.out 8 _) (by decide) Z2v.out
  rw [LB.out] at *
  have R2 := Lib.hid hr
  have O3 := Lib.hid ho
  have L3 := Lib.hid hlen
  have G3 := Lib.hid ((hbb.block _ (Nat.lt_succ_self _)).trans G2v.out)
  have B3 := Lib.hid (B2v.out.trans (hbb.mono (Nat.le_succ _)))
  have Z3 : Hid (w.heap.size + 1 ≤ W3.heap.size) := Nat.le_trans Z2v.out hbb.size
  clear hy hb hO hr ho hlen hbb O2 L2 G2 B2 Z2 G2v B2v Z2v
  have d3 := (HDC.out _ _ G3.out).2.2.2
  clear d2
  have hs := sees_new W3 #[.int .u8 R.k] [R.k] rfl (fun y hy => by simp at hy; have := KB.out; omega) (by simp [maxLen]) _ rfl 1 rfl
  have hal : Below W3.heap.size W3 (W3.alloc (.cells #[.int .u8 R.k] 5)) := (Below.refl _ _).alloc (Nat.le_refl _) _
  have Z3v : Hid (w.heap.size + 1 ≤ (W3.alloc (.cells #[.int .u8 R.k] 5)).heap.size) := Nat.le_trans Z3.out hal.size
  obtain ⟨x4, c4, W4, hr, ho, hlen, hbb⟩ := app' (m := 1) (O3.out.below hal) L3.out hs rfl (by decide) Z3v.out
  have R3 := Lib.hid hr
  have O4 := Lib.hid ho
  have L4 := Lib.hid hlen
  have B4 := Lib.hid ((B3.out.trans (hal.mono B3.out.size)).trans (hbb.mono (Nat.le_succ _)))
  clear hr ho hlen hbb hal hs O3 L3 G3 B3 Z3 Z3v
  go_wp2_with (first
    | (at_builtin; refine wpList_app rfl (.tmp 17) (.tmp 20) rfl rfl rfl rfl R2.out ?_)
    | (at_builtin; refine wpList_app rfl (.tmp 22) (.tmp 25) rfl rfl rfl rfl R3.out ?_))
  refine (refPad _ _ 64 (by rw [L4.out]; decide) (by decide) _ O4.out.sees).mono ?_
  rintro e W8 ⟨v, he, hs, hb⟩
  have hp := padV_of (m := 64) L4.out (by decide) (by decide)
  have B8 := Lib.hid (B4.out.trans (hb.mono B4.out.size))
  rw [show ((64 : Nat) : Int) = 64 from rfl] at hp
  rw [hp.1] at he
  rw [hp.2, EB.out] at hs
  subst he
  have HS := Lib.hid (YES.out v W8 hs B8.out)
  clear hs hb hp
  go_wp2_with fail
  go_ret2
  exact HS.out
theorem refWG (R : Rg) (hR : R.ok) (x : Option Addr) (c : Nat) (w : World) (h : Sees w (.slice x 32 c) R.z) : Calls Try.prog 19 #[.agg (qcells (.slice x 32 c) R.g R.e R.k)] w (RefWGP w R) := by
  by_cases hk : R.k ≤ 1
  · exact refWG_yes R hR hk x c w h
  · exact refWG_no R hk x c w
end Go.Proofs.Ytplffbpnjnbolaa
