/-
  The contract of req.Encode. Condition: the value reads as a request, with data of at most 5000 bytes.
-/
import Derived.Test.YtdohggpajhkkhaaRqJ
namespace Go.Proofs.Ytdohggpajhkkhaa
open Go.RowKit
def encE (p : Rq) : Int := if rightQ p = true then 0 else 3
def encV (p : Rq) : List Int := if rightQ p = true then 82 :: p.k :: wrL p else []
def EncP (w : World) (p : Rq) (e : Ending) (w' : World) : Prop := ∃ x cap, e = .returned (.tuple #[.slice x (encV p).length cap, .int .i64 (encE p)]) ∧ Sees w' (.slice x (encV p).length cap) (encV p) ∧ Below w.heap.size w w'
theorem own_of {W : World} {g base n : Nat} {xs : List Int} (hb : Byt xs) (hm : xs.length ≤ maxLen) (h : W.heap[g]? = some (.cells (bcells xs) 5 (0, 0))) (hg : base ≤ g) (hn : n = xs.length) : Own W base (.slice (some ⟨g, 0, none⟩) n n) xs :=
  ⟨hb, by simp, .inr ⟨g, n, bcells xs, by rw [hn], hg, h, by omega, by omega, by rw [bcells_size]; omega, by
    rw [bcells_toList, List.take_of_length_le (by simp)]⟩⟩
theorem bc2 (a b : Int) : bcells [a, b] = #[.int .u8 a, .int .u8 b] := rfl
theorem right_kind {p : Rq} (h : rightQ p = true) : kindB p.k = true := by
  unfold rightQ at h
  simp only [Bool.and_eq_true] at h
  exact h.1
theorem kind_bd {k : Int} (h : kindB k = true) : 1 ≤ k ∧ k ≤ 16 := by
  unfold kindB at h
  simpa using h
set_option maxRecDepth 100000 in
set_option maxHeartbeats 4000000 in
theorem encodeC {p : Rq} (hp : RQ p) (h5 : p.d.length ≤ 5000) (dv : Value) (w : World) (hd : Sees w dv p.d) :
    Calls Try.prog 8 #[.agg (rc p dv).toArray] w (EncP w p) := by
  have ic := Lib.hid (i26 hp dv)
  obtain ⟨w1, hw1⟩ : ∃ w1, w1 = w.alloc (.cells (rc p dv).toArray 26) := ⟨_, rfl⟩
  have b1 : Below w.heap.size w w1 := by rw [hw1]; exact (Below.refl _ _).alloc (Nat.le_refl _) _
  have g1 : w1.heap[w.heap.size]? = some (.cells (rc p dv).toArray 26 (0, 0)) := by rw [hw1]; exact heap_alloc_new w _
  have KA : Hid (∀ W : World, W.heap[w.heap.size]? = some (.cells (rc p dv).toArray 26 (0, 0)) → W.cell? ⟨w.heap.size, 0, none⟩ = some (.int .i64 p.k)) := fun W h => by rw [cell_of_row W _ _ _ _ _ h]; rfl
  have RI : Hid (∀ W, Below w.heap.size w W → Calls Try.prog 15 #[.agg (rc p dv).toArray] W fun e w' => e = .returned (.bool (rightQ p)) ∧ Below W.heap.size W w') := fun W h => rightC hp h5 dv W (hd.below h)
  have WR : Hid (kindB p.k = true → ∀ W, Below w.heap.size w W → Calls Try.prog 19 #[.agg (rc p dv).toArray, .string (letS p.k)] W (OwnP W (wrL p))) := fun hk W h => writtenC hp h5 hk dv W (hd.below h)
  have LT : Hid (∀ W : World, Calls Try.prog 20 #[.int .i64 p.k] W fun e w' => e = .returned (.string (letS p.k)) ∧ W = w') := fun W => lettersOf p.k W
  have LL : Hid (kindB p.k = true → (wrL p).length ≤ 10000) := fun hk => by have := wrL_len hp hk; omega
  have NO : Hid (rightQ p = false → ∀ W, Below w.heap.size w W → EncP w p (.returned (.tuple #[.slice none 0 0, .int .i64 3])) W) := fun h W hb => by
    unfold EncP encE encV
    rw [h]
    exact ⟨none, 0, rfl, sees_nil _, hb⟩
  have YES : Hid (rightQ p = true → ∀ W v, Below w.heap.size w W → Own W w1.heap.size v ([82, p.k] ++ wrL p) → EncP w p (.returned (.tuple #[v, .int .i64 0])) W) := fun h W v hb ho => by
    unfold EncP encE encV
    rw [if_pos h, if_pos h]
    obtain ⟨x, cap, rfl⟩ := ho.form
    exact ⟨x, cap, rfl, ho.sees, hb⟩
  obtain ⟨C, hC⟩ : ∃ C, C = (rc p dv).toArray := ⟨_, rfl⟩
  rw [← hC] at ic g1 hw1 KA RI WR
  rw [← hC]
  have B1 := Lib.hid b1
  have G1 := Lib.hid g1
  have HW1 := Lib.hid hw1
  cases hr : rightQ p with
  | false =>
    have NO' := Lib.hid (NO.out hr)
    rw [hr] at RI
    clear NO YES hC hw1 g1 b1 hd h5 hp WR LT LL hr
    generalize EncP w p = PP at NO' ⊢
    go_enter Try.func8, Try.ntmps8
    go_wp2_with (first | rw [← HW1.out] | refine wpList_load_row rfl 26 (.tmp 1) rfl w.heap.size rfl 26 C (0, 0) _ G1.out Try.underlying26 rfl ic.out ?_)
    refine (RI.out _ B1.out).mono ?_
    rintro e w2 ⟨rfl, hb⟩
    have B2 := Lib.hid (B1.out.trans (hb.mono B1.out.size))
    clear hb
    go_wp2
    exact NO'.out _ B2.out
  | true =>
    have hk := right_kind hr
    have kbd := kind_bd hk
    have YES' := Lib.hid (YES.out hr)
    have WR' := Lib.hid (WR.out hk)
    have LL' := Lib.hid (LL.out hk)
    rw [hr] at RI
    clear NO YES hC hw1 g1 b1 hd h5 hp WR LL hr hk
    generalize EncP w p = PP at YES' ⊢
    generalize letS p.k = LS at WR' LT
    generalize wrL p = X at WR' YES' LL'
    generalize p.k = kd at KA LT YES' kbd
    have WU : Hid (IntKind.u8.wrap kd = kd) := by show kd % 256 = kd; omega
    have KB := Lib.hid kbd
    clear kbd
    go_enter Try.func8, Try.ntmps8
    go_wp2_with (first | rw [← HW1.out] | refine wpList_load_row rfl 26 (.tmp 1) rfl w.heap.size rfl 26 C (0, 0) _ G1.out Try.underlying26 rfl ic.out ?_)
    refine (RI.out _ B1.out).mono ?_
    rintro e w2 ⟨rfl, hb⟩
    have B2 := Lib.hid (B1.out.trans (hb.mono B1.out.size))
    have G2 := Lib.hid ((hb.block _ (blk_lt G1.out)).trans G1.out)
    have Z2 : Hid (w1.heap.size ≤ w2.heap.size) := hb.size
    clear hb G1
    go_wp2_with fail
    have BW := Lib.hid (Below.refl w2.heap.size w2)
    have hB1z : w.heap.size < w1.heap.size := blk_lt (g := w.heap.size) (by rw [HW1.out]; exact heap_alloc_new w _)
    refine wp_region_held_drew (S := fun W => Below w.heap.size w W ∧ W.heap[w.heap.size]? = some (.cells C 26 (0, 0))) (by kernel_rfl) (⟨B2.out.drew, G2.out⟩) (fun hS => ?_)
    have hb0 : Below w2.heap.size w2 w2.drew := (Below.refl _ _).drew
    have qBW := BW.out.trans (hb0.mono BW.out.size)
    clear hb0 BW
    generalize w2.drew = Wrs at hS qBW ⊢
    have BW := Lib.hid qBW
    clear qBW
    refine' wpAnyH_take (i := 0) ?h1x0r ?hsx0r ?hfx0r ?hrx0r ?hQx0r (Or.inl ⟨?hwx0r, ?hyx0r⟩) hS ?restx0r
    case h1x0r => (simp only [List.getElem?_toArray, List.getElem?_cons_zero]; rfl)
    case hsx0r => kernel_rfl
    case hfx0r => kernel_rfl
    case hrx0r => kernel_rfl
    case hQx0r => exact fun _ _ _ h => h
    case hwx0r => rfl
    case hyx0r =>
      intro W hW
      go_simp
      try with_reducible rfl
    simp only [Act.put, List.setIfInBounds_toArray, List.set_cons_succ, List.set_cons_zero]
    refine' wpAnyH_take (i := 4) ?h1x4r ?hsx4r ?hfx4r ?hrx4r ?hQx4r (yieldsIf_load_at ?hwx4r 26 (.tmp 1) ?hopx4r w.heap.size 0 rfl C _ (fun W hW => range_row hW.2) Try.underlying26 rfl ?hix4r) hS ?restx4r
    case h1x4r => (simp only [List.getElem?_toArray, List.getElem?_cons_succ, List.getElem?_cons_zero]; rfl)
    case hopx4r => rfl
    case hsx4r => kernel_rfl
    case hfx4r => kernel_rfl
    case hrx4r => kernel_rfl
    case hQx4r => exact fun _ _ _ h => h
    case hwx4r => rfl
    case hix4r => exact ic.out
    simp only [Act.put, List.setIfInBounds_toArray, List.set_cons_succ, List.set_cons_zero]
    refine' wpAnyH_take (i := 5) ?h1x5r ?hsx5r ?hfx5r ?hrx5r ?hQx5r (Or.inl ⟨?hwx5r, ?hyx5r⟩) hS ?restx5r
    case h1x5r => (simp only [List.getElem?_toArray, List.getElem?_cons_succ, List.getElem?_cons_zero]; rfl)
    case hsx5r => kernel_rfl
    case hfx5r => kernel_rfl
    case hrx5r => kernel_rfl
    case hQx5r => exact fun _ _ _ h => h
    case hwx5r => rfl
    case hyx5r =>
      intro W hW
      go_simp
      try with_reducible rfl
    simp only [Act.put, List.setIfInBounds_toArray, List.set_cons_succ, List.set_cons_zero]
    refine' wpAnyH_take (i := 1) ?h1x1r ?hsx1r ?hfx1r ?hrx1r ?hQx1r (Or.inl ⟨?hwx1r, ?hyx1r⟩) hS ?restx1r
    case h1x1r => (simp only [List.getElem?_toArray, List.getElem?_cons_succ, List.getElem?_cons_zero]; rfl)
    case hsx1r => kernel_rfl
    case hfx1r => kernel_rfl
    case hrx1r => kernel_rfl
    case hQx1r => exact fun _ _ _ h => h
    case hwx1r => rfl
    case hyx1r =>
      intro W hW
      have dd := KA.out W hW.2
      go_simp
      try with_reducible rfl
    simp only [Act.put, List.setIfInBounds_toArray, List.set_cons_succ, List.set_cons_zero]
    refine' wpAnyH_take (i := 6) ?h1x6r ?hsx6r ?hfx6r ?hrx6r ?hQx6r (Or.inl ⟨?hwx6r, ?hyx6r⟩) hS ?restx6r
    case h1x6r => (simp only [List.getElem?_toArray, List.getElem?_cons_succ, List.getElem?_cons_zero]; rfl)
    case hsx6r => kernel_rfl
    case hfx6r => kernel_rfl
    case hrx6r => kernel_rfl
    case hQx6r => exact fun _ _ _ h => h
    case hwx6r => rfl
    case hyx6r =>
      intro W hW
      have dd := KA.out W hW.2
      go_simp
      try with_reducible rfl
    simp only [Act.put, List.setIfInBounds_toArray, List.set_cons_succ, List.set_cons_zero]
    refine' wpAnyH_take (i := 2) ?h1x2r ?hsx2r ?hfx2r ?hrx2r ?hQx2r (Or.inl ⟨?hwx2r, ?hyx2r⟩) hS ?restx2r
    case h1x2r => (simp only [List.getElem?_toArray, List.getElem?_cons_succ, List.getElem?_cons_zero]; rfl)
    case hsx2r => kernel_rfl
    case hfx2r => kernel_rfl
    case hrx2r => kernel_rfl
    case hQx2r => exact fun _ _ _ h => h
    case hwx2r => rfl
    case hyx2r =>
      intro W hW
      have dd := WU.out
      go_simp
      try with_reducible rfl
    simp only [Act.put, List.setIfInBounds_toArray, List.set_cons_succ, List.set_cons_zero]
    refine wpAnyH_ready (rs := [3, 7]) (by kernel_rfl) (by simp) ?_
    refine' (AllReadyH.cons ?hoc3r (fun K hK => ?stc3r) (AllReadyH.cons ?hoc7r (fun K hK => ?stc7r) AllReadyH.nil))
    case hoc3r => (simp only [List.getElem?_toArray, List.getElem?_cons_succ, List.getElem?_cons_zero]; rfl)
    case hoc7r => (simp only [List.getElem?_toArray, List.getElem?_cons_succ, List.getElem?_cons_zero]; rfl)
    case stc3r =>
      have hgb0 := BW.out.size
      go_simp
      have hb := (Below.refl Wrs.heap.size Wrs).alloc (Nat.le_refl _) (.cells #[.int .u8 82, .int .u8 kd] 5)
      refine hK.out _ _ (⟨hS.1.trans (hb.mono hS.1.size), (hb.block _ (blk_lt hS.2)).trans hS.2⟩) (fun hHeld => ?_)
      clear hK K
      try simp only [Act.put, List.setIfInBounds_toArray, List.set_cons_succ, List.set_cons_zero]
      have qGB := heap_alloc_new Wrs (.cells #[.int .u8 82, .int .u8 kd] 5)
      have hgb := hS.1.size
      have qBW := BW.out.trans (hb.mono BW.out.size)
      clear hS
      have hS := hHeld
      clear hHeld
      clear hb
      clear BW
      generalize Wrs.alloc (.cells #[.int .u8 82, .int .u8 kd] 5) = Wrx3 at *
      generalize Wrs.heap.size = gb at *
      have BW := Lib.hid qBW
      have GB := Lib.hid qGB
      clear qBW qGB
      refine wpAnyH_ready (rs := [7]) (by kernel_rfl) (by simp) ?_
      refine' (AllReadyH.cons ?hoc7rx3 (fun K hK => ?stc7rx3) AllReadyH.nil)
      case hoc7rx3 => (simp only [List.getElem?_toArray, List.getElem?_cons_succ, List.getElem?_cons_zero]; rfl)
      go_simp
      refine (LT.out Wrx3).mono ?_
      rintro e w' ⟨rfl, rfl⟩
      go_wp2_with fail
      refine hK.out _ _ hS (fun hHeld => ?_)
      clear hK K
      try simp only [Act.put, List.setIfInBounds_toArray, List.set_cons_succ, List.set_cons_zero]
      clear hS
      have hS := hHeld
      clear hHeld
      refine wpAnyH_ready (rs := [8]) (by kernel_rfl) (by simp) ?_
      refine' (AllReadyH.cons ?hoc8rx3x7 (fun K hK => ?stc8rx3x7) AllReadyH.nil)
      case hoc8rx3x7 => (simp only [List.getElem?_toArray, List.getElem?_cons_succ, List.getElem?_cons_zero]; rfl)
      go_simp
      refine (WR'.out Wrx3 hS.1).mono ?_
      rintro e Wrx3x7x8 ⟨xo, co, rfl, ho, hb⟩
      have BW := Lib.hid (BW.out.trans (hb.mono BW.out.size))
      have GB := Lib.hid ((hb.block _ (blk_lt GB.out)).trans GB.out)
      have SX := Lib.hid ho.sees
      clear ho
      go_wp2_with fail
      refine hK.out _ _ (⟨hS.1.trans (hb.mono hS.1.size), (hb.block _ (blk_lt hS.2)).trans hS.2⟩) (fun hHeld => ?_)
      clear hK K
      try simp only [Act.put, List.setIfInBounds_toArray, List.set_cons_succ, List.set_cons_zero]
      clear hS
      have hS := hHeld
      clear hHeld
      clear hb
      refine wpAnyH_ready (rs := [9]) (by kernel_rfl) (by simp) ?_
      refine' (AllReadyH.cons ?hoc9rx3x7x8 (fun K hK => ?stc9rx3x7x8) AllReadyH.nil)
      case hoc9rx3x7x8 => (simp only [List.getElem?_toArray, List.getElem?_cons_succ, List.getElem?_cons_zero]; rfl)
      have hgb : w1.heap.size ≤ gb := Nat.le_trans Z2.out hgb0
      have how : Own Wrx3x7x8 w1.heap.size (.slice (some ⟨gb, 0, none⟩) 2 2) [82, kd] := own_of (byt_of _ (by have := KB.out; simp; omega)) (by show 2 ≤ maxLen; decide) (by rw [bc2]; exact GB.out) hgb rfl
      obtain ⟨xz, cz, wz, hr, ho, _, hbz⟩ := app how SX.out (by have := LL'.out; simp; omega) (Nat.le_trans Z2.out BW.out.size)
      refine step_app rfl (.tmp 10) (.tmp 15) rfl rfl rfl rfl hr ?_
      have hbw := hS.1.trans (hbz.mono (by have := hB1z; omega))
      refine hK.out _ _ ⟨hbw, (hbz.block _ (by omega)).trans hS.2⟩ (fun hHeld => ?_)
      clear hK K
      try simp only [Act.put, List.setIfInBounds_toArray, List.set_cons_succ, List.set_cons_zero]
      have YF := Lib.hid (YES'.out _ _ hbw ho)
      clear hr ho hbz hbw how
      clear hS
      have hS := hHeld
      clear hHeld
      refine' wpAnyH_take (i := 10) ?h1x10rx3x7x8x9 ?hsx10rx3x7x8x9 ?hfx10rx3x7x8x9 ?hrx10rx3x7x8x9 ?hQx10rx3x7x8x9 (Or.inl ⟨?hwx10rx3x7x8x9, ?hyx10rx3x7x8x9⟩) hS ?restx10rx3x7x8x9
      case h1x10rx3x7x8x9 => (simp only [List.getElem?_toArray, List.getElem?_cons_succ, List.getElem?_cons_zero]; rfl)
      case hsx10rx3x7x8x9 => kernel_rfl
      case hfx10rx3x7x8x9 => kernel_rfl
      case hrx10rx3x7x8x9 => kernel_rfl
      case hQx10rx3x7x8x9 => exact fun _ _ _ h => h
      case hwx10rx3x7x8x9 => rfl
      case hyx10rx3x7x8x9 =>
        intro W hW
        go_simp
        try with_reducible rfl
      simp only [Act.put, List.setIfInBounds_toArray, List.set_cons_succ, List.set_cons_zero]
      refine' wpAnyH_take (i := 11) ?h1x11rx3x7x8x9 ?hsx11rx3x7x8x9 ?hfx11rx3x7x8x9 ?hrx11rx3x7x8x9 ?hQx11rx3x7x8x9 (Or.inl ⟨?hwx11rx3x7x8x9, ?hyx11rx3x7x8x9⟩) hS ?restx11rx3x7x8x9
      case h1x11rx3x7x8x9 => (simp only [List.getElem?_toArray, List.getElem?_cons_succ, List.getElem?_cons_zero]; rfl)
      case hsx11rx3x7x8x9 => kernel_rfl
      case hfx11rx3x7x8x9 => kernel_rfl
      case hrx11rx3x7x8x9 => kernel_rfl
      case hQx11rx3x7x8x9 => exact fun _ _ _ h => h
      case hwx11rx3x7x8x9 => rfl
      case hyx11rx3x7x8x9 =>
        intro W hW
        go_simp
        try with_reducible rfl
      simp only [Act.put, List.setIfInBounds_toArray, List.set_cons_succ, List.set_cons_zero]
      refine wpAnyH_done (by kernel_rfl) ?_ _
      go_wp2_with fail
      exact YF.out
    case stc7r =>
      go_simp
      refine (LT.out Wrs).mono ?_
      rintro e w' ⟨rfl, rfl⟩
      go_wp2_with fail
      refine hK.out _ _ hS (fun hHeld => ?_)
      clear hK K
      try simp only [Act.put, List.setIfInBounds_toArray, List.set_cons_succ, List.set_cons_zero]
      clear hS
      have hS := hHeld
      clear hHeld
      refine wpAnyH_ready (rs := [3, 8]) (by kernel_rfl) (by simp) ?_
      refine' (AllReadyH.cons ?hoc3rx7 (fun K hK => ?stc3rx7) (AllReadyH.cons ?hoc8rx7 (fun K hK => ?stc8rx7) AllReadyH.nil))
      case hoc3rx7 => (simp only [List.getElem?_toArray, List.getElem?_cons_succ, List.getElem?_cons_zero]; rfl)
      case hoc8rx7 => (simp only [List.getElem?_toArray, List.getElem?_cons_succ, List.getElem?_cons_zero]; rfl)
      case stc3rx7 =>
        have hgb0 := BW.out.size
        go_simp
        have hb := (Below.refl Wrs.heap.size Wrs).alloc (Nat.le_refl _) (.cells #[.int .u8 82, .int .u8 kd] 5)
        refine hK.out _ _ (⟨hS.1.trans (hb.mono hS.1.size), (hb.block _ (blk_lt hS.2)).trans hS.2⟩) (fun hHeld => ?_)
        clear hK K
        try simp only [Act.put, List.setIfInBounds_toArray, List.set_cons_succ, List.set_cons_zero]
        have qGB := heap_alloc_new Wrs (.cells #[.int .u8 82, .int .u8 kd] 5)
        have hgb := hS.1.size
        have qBW := BW.out.trans (hb.mono BW.out.size)
        clear hS
        have hS := hHeld
        clear hHeld
        clear hb
        clear BW
        generalize Wrs.alloc (.cells #[.int .u8 82, .int .u8 kd] 5) = Wrx7x3 at *
        generalize Wrs.heap.size = gb at *
        have BW := Lib.hid qBW
        have GB := Lib.hid qGB
        clear qBW qGB
        refine wpAnyH_ready (rs := [8]) (by kernel_rfl) (by simp) ?_
        refine' (AllReadyH.cons ?hoc8rx7x3 (fun K hK => ?stc8rx7x3) AllReadyH.nil)
        case hoc8rx7x3 => (simp only [List.getElem?_toArray, List.getElem?_cons_succ, List.getElem?_cons_zero]; rfl)
        go_simp
        refine (WR'.out Wrx7x3 hS.1).mono ?_
        rintro e Wrx7x3x8 ⟨xo, co, rfl, ho, hb⟩
        have BW := Lib.hid (BW.out.trans (hb.mono BW.out.size))
        have GB := Lib.hid ((hb.block _ (blk_lt GB.out)).trans GB.out)
        have SX := Lib.hid ho.sees
        clear ho
        go_wp2_with fail
        refine hK.out _ _ (⟨hS.1.trans (hb.mono hS.1.size), (hb.block _ (blk_lt hS.2)).trans hS.2⟩) (fun hHeld => ?_)
        clear hK K
        try simp only [Act.put, List.setIfInBounds_toArray, List.set_cons_succ, List.set_cons_zero]
        clear hS
        have hS := hHeld
        clear hHeld
        clear hb
        refine wpAnyH_ready (rs := [9]) (by kernel_rfl) (by simp) ?_
        refine' (AllReadyH.cons ?hoc9rx7x3x8 (fun K hK => ?stc9rx7x3x8) AllReadyH.nil)
        case hoc9rx7x3x8 => (simp only [List.getElem?_toArray, List.getElem?_cons_succ, List.getElem?_cons_zero]; rfl)
        have hgb : w1.heap.size ≤ gb := Nat.le_trans Z2.out hgb0
        have how : Own Wrx7x3x8 w1.heap.size (.slice (some ⟨gb, 0, none⟩) 2 2) [82, kd] := own_of (byt_of _ (by have := KB.out; simp; omega)) (by show 2 ≤ maxLen; decide) (by rw [bc2]; exact GB.out) hgb rfl
        obtain ⟨xz, cz, wz, hr, ho, _, hbz⟩ := app how SX.out (by have := LL'.out; simp; omega) (Nat.le_trans Z2.out BW.out.size)
        refine step_app rfl (.tmp 10) (.tmp 15) rfl rfl rfl rfl hr ?_
        have hbw := hS.1.trans (hbz.mono (by have := hB1z; omega))
        refine hK.out _ _ ⟨hbw, (hbz.block _ (by omega)).trans hS.2⟩ (fun hHeld => ?_)
        clear hK K
        try simp only [Act.put, List.setIfInBounds_toArray, List.set_cons_succ, List.set_cons_zero]
        have YF := Lib.hid (YES'.out _ _ hbw ho)
        clear hr ho hbz hbw how
        clear hS
        have hS := hHeld
        clear hHeld
        refine' wpAnyH_take (i := 10) ?h1x10rx7x3x8x9 ?hsx10rx7x3x8x9 ?hfx10rx7x3x8x9 ?hrx10rx7x3x8x9 ?hQx10rx7x3x8x9 (Or.inl ⟨?hwx10rx7x3x8x9, ?hyx10rx7x3x8x9⟩) hS ?restx10rx7x3x8x9
        case h1x10rx7x3x8x9 => (simp only [List.getElem?_toArray, List.getElem?_cons_succ, List.getElem?_cons_zero]; rfl)
        case hsx10rx7x3x8x9 => kernel_rfl
        case hfx10rx7x3x8x9 => kernel_rfl
        case hrx10rx7x3x8x9 => kernel_rfl
        case hQx10rx7x3x8x9 => exact fun _ _ _ h => h
        case hwx10rx7x3x8x9 => rfl
        case hyx10rx7x3x8x9 =>
          intro W hW
          go_simp
          try with_reducible rfl
        simp only [Act.put, List.setIfInBounds_toArray, List.set_cons_succ, List.set_cons_zero]
        refine' wpAnyH_take (i := 11) ?h1x11rx7x3x8x9 ?hsx11rx7x3x8x9 ?hfx11rx7x3x8x9 ?hrx11rx7x3x8x9 ?hQx11rx7x3x8x9 (Or.inl ⟨?hwx11rx7x3x8x9, ?hyx11rx7x3x8x9⟩) hS ?restx11rx7x3x8x9
        case h1x11rx7x3x8x9 => (simp only [List.getElem?_toArray, List.getElem?_cons_succ, List.getElem?_cons_zero]; rfl)
        case hsx11rx7x3x8x9 => kernel_rfl
        case hfx11rx7x3x8x9 => kernel_rfl
        case hrx11rx7x3x8x9 => kernel_rfl
        case hQx11rx7x3x8x9 => exact fun _ _ _ h => h
        case hwx11rx7x3x8x9 => rfl
        case hyx11rx7x3x8x9 =>
          intro W hW
          go_simp
          try with_reducible rfl
        simp only [Act.put, List.setIfInBounds_toArray, List.set_cons_succ, List.set_cons_zero]
        refine wpAnyH_done (by kernel_rfl) ?_ _
        go_wp2_with fail
        exact YF.out
      case stc8rx7 =>
        go_simp
        refine (WR'.out Wrs hS.1).mono ?_
        rintro e Wrx7x8 ⟨xo, co, rfl, ho, hb⟩
        have BW := Lib.hid (BW.out.trans (hb.mono BW.out.size))
        have SX := Lib.hid ho.sees
        clear ho
        go_wp2_with fail
        refine hK.out _ _ (⟨hS.1.trans (hb.mono hS.1.size), (hb.block _ (blk_lt hS.2)).trans hS.2⟩) (fun hHeld => ?_)
        clear hK K
        try simp only [Act.put, List.setIfInBounds_toArray, List.set_cons_succ, List.set_cons_zero]
        clear hS
        have hS := hHeld
        clear hHeld
        clear hb
        refine wpAnyH_ready (rs := [3]) (by kernel_rfl) (by simp) ?_
        refine' (AllReadyH.cons ?hoc3rx7x8 (fun K hK => ?stc3rx7x8) AllReadyH.nil)
        case hoc3rx7x8 => (simp only [List.getElem?_toArray, List.getElem?_cons_succ, List.getElem?_cons_zero]; rfl)
        have hgb0 := BW.out.size
        go_simp
        have hb := (Below.refl Wrx7x8.heap.size Wrx7x8).alloc (Nat.le_refl _) (.cells #[.int .u8 82, .int .u8 kd] 5)
        refine hK.out _ _ (⟨hS.1.trans (hb.mono hS.1.size), (hb.block _ (blk_lt hS.2)).trans hS.2⟩) (fun hHeld => ?_)
        clear hK K
        try simp only [Act.put, List.setIfInBounds_toArray, List.set_cons_succ, List.set_cons_zero]
        have qGB := heap_alloc_new Wrx7x8 (.cells #[.int .u8 82, .int .u8 kd] 5)
        have hgb := hS.1.size
        have qBW := BW.out.trans (hb.mono BW.out.size)
        have qSX := SX.out.below hb
        clear hS
        have hS := hHeld
        clear hHeld
        clear hb
        clear BW SX
        generalize Wrx7x8.alloc (.cells #[.int .u8 82, .int .u8 kd] 5) = Wrx7x8x3 at *
        generalize Wrx7x8.heap.size = gb at *
        have BW := Lib.hid qBW
        have SX := Lib.hid qSX
        have GB := Lib.hid qGB
        clear qBW qSX qGB
        refine wpAnyH_ready (rs := [9]) (by kernel_rfl) (by simp) ?_
        refine' (AllReadyH.cons ?hoc9rx7x8x3 (fun K hK => ?stc9rx7x8x3) AllReadyH.nil)
        case hoc9rx7x8x3 => (simp only [List.getElem?_toArray, List.getElem?_cons_succ, List.getElem?_cons_zero]; rfl)
        have hgb : w1.heap.size ≤ gb := Nat.le_trans Z2.out hgb0
        have how : Own Wrx7x8x3 w1.heap.size (.slice (some ⟨gb, 0, none⟩) 2 2) [82, kd] := own_of (byt_of _ (by have := KB.out; simp; omega)) (by show 2 ≤ maxLen; decide) (by rw [bc2]; exact GB.out) hgb rfl
        obtain ⟨xz, cz, wz, hr, ho, _, hbz⟩ := app how SX.out (by have := LL'.out; simp; omega) (Nat.le_trans Z2.out BW.out.size)
        refine step_app rfl (.tmp 10) (.tmp 15) rfl rfl rfl rfl hr ?_
        have hbw := hS.1.trans (hbz.mono (by have := hB1z; omega))
        refine hK.out _ _ ⟨hbw, (hbz.block _ (by omega)).trans hS.2⟩ (fun hHeld => ?_)
        clear hK K
        try simp only [Act.put, List.setIfInBounds_toArray, List.set_cons_succ, List.set_cons_zero]
        have YF := Lib.hid (YES'.out _ _ hbw ho)
        clear hr ho hbz hbw how
        clear hS
        have hS := hHeld
        clear hHeld
        refine' wpAnyH_take (i := 10) ?h1x10rx7x8x3x9 ?hsx10rx7x8x3x9 ?hfx10rx7x8x3x9 ?hrx10rx7x8x3x9 ?hQx10rx7x8x3x9 (Or.inl ⟨?hwx10rx7x8x3x9, ?hyx10rx7x8x3x9⟩) hS ?restx10rx7x8x3x9
        case h1x10rx7x8x3x9 => (simp only [List.getElem?_toArray, List.getElem?_cons_succ, List.getElem?_cons_zero]; rfl)
        case hsx10rx7x8x3x9 => kernel_rfl
        case hfx10rx7x8x3x9 => kernel_rfl
        case hrx10rx7x8x3x9 => kernel_rfl
        case hQx10rx7x8x3x9 => exact fun _ _ _ h => h
        case hwx10rx7x8x3x9 => rfl
        case hyx10rx7x8x3x9 =>
          intro W hW
          go_simp
          try with_reducible rfl
        simp only [Act.put, List.setIfInBounds_toArray, List.set_cons_succ, List.set_cons_zero]
        refine' wpAnyH_take (i := 11) ?h1x11rx7x8x3x9 ?hsx11rx7x8x3x9 ?hfx11rx7x8x3x9 ?hrx11rx7x8x3x9 ?hQx11rx7x8x3x9 (Or.inl ⟨?hwx11rx7x8x3x9, ?hyx11rx7x8x3x9⟩) hS ?restx11rx7x8x3x9
        case h1x11rx7x8x3x9 => (simp only [List.getElem?_toArray, List.getElem?_cons_succ, List.getElem?_cons_zero]; rfl)
        case hsx11rx7x8x3x9 => kernel_rfl
        case hfx11rx7x8x3x9 => kernel_rfl
        case hrx11rx7x8x3x9 => kernel_rfl
        case hQx11rx7x8x3x9 => exact fun _ _ _ h => h
        case hwx11rx7x8x3x9 => rfl
        case hyx11rx7x8x3x9 =>
          intro W hW
          go_simp
          try with_reducible rfl
        simp only [Act.put, List.setIfInBounds_toArray, List.set_cons_succ, List.set_cons_zero]
        refine wpAnyH_done (by kernel_rfl) ?_ _
        go_wp2_with fail
        exact YF.out
end Go.Proofs.Ytdohggpajhkkhaa
