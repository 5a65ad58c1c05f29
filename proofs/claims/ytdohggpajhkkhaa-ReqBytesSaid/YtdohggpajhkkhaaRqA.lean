/-
  Contracts of the closures by which package req writes a request's fields. Condition: the bytes that are written to are the call's own.
-/
import Derived.Test.YtdohggpajhkkhaaER
namespace Go.Proofs.Ytdohggpajhkkhaa
open Go.RowKit
/-- Behind a field: the call's own bytes have grown, all below block B and the block `it` are as they were. -/
def AppP (W : World) (B it base : Nat) (ys : List Int) (e : Ending) (w' : World) : Prop :=
  e = .returned (.tuple #[]) ∧ Below B W w' ∧ w'.heap[it]? = W.heap[it]? ∧ ∃ v, w'.heap[B]? = some (.cells #[v] 24 (0, 0)) ∧ Own w' base v ys ∧ base ≤ w'.heap.size
theorem ownblk {w : World} {base : Nat} {v : Value} {xs : List Int} (h : Own w base v xs) {B : Nat} (hB : B < base) : v.ownBlock = none ∨ v.ownBlock ≠ some B := by
  refine .inr (fun e => ?_)
  have := h.2.lt B e
  omega
/-- An append of bytes, and the store behind it. -/
theorem app_store {W W2 : World} {B it base : Nat} {v u : Value} {xs ys : List Int} (hb : Below W.heap.size W W2) (hB : W2.heap[B]? = some (.cells #[v] 24 (0, 0))) (hit : it < W.heap.size) (hBi : B < it) (hib : it < base) (hbs : base ≤ W2.heap.size) (ho : Own W2 base v xs) (hs : Sees W2 u ys) (hn : xs.length + ys.length ≤ 1099511627776) :
    ∃ x m c w', (Builtin.append_ #[24, 24] 24 #[v, u]).run Try.prog W2 = .ok (.slice x m c) w' ∧ Below B W w' ∧ w'.cell? ⟨B, 0, none⟩ = some v ∧ w'.frozen? ⟨B, 0, none⟩ = false ∧ Below B W (w'.setCell ⟨B, 0, none⟩ (.slice x m c)) ∧ AppP W B it base (xs ++ ys) (.returned (.tuple #[])) (w'.setCell ⟨B, 0, none⟩ (.slice x m c)) := by
  obtain ⟨x, cap, w', hr, ho', hg, hbel⟩ := app ho hs hn hbs
  have hB' := (hbel.block B (by omega)).trans hB
  have hb1 : Below B W w' := (hb.mono (by omega)).trans (hbel.mono (by omega))
  have he : w'.setCell ⟨B, 0, none⟩ (.slice x (xs.length + ys.length) cap) = w'.setRow B #[.slice x (xs.length + ys.length) cap] := by rw [setCell_eq_setRow w' B 0 _ _ _ _ hB']; rfl
  have hb2 : Below B W (w'.setRow B #[.slice x (xs.length + ys.length) cap]) := hb1.trans (below_row _ _ (Nat.le_refl _))
  refine ⟨_, _, _, w', hr, hb1, by rw [cell_of_row w' B 0 _ _ _ hB']; rfl, frozen_block hB' 0, by rw [he]; exact hb2, ?_⟩
  rw [he]
  refine ⟨rfl, hb2, ?_, _, setRow_heap _ B _ _ _ _ hB', ?_, ?_⟩
  · rw [setRow_other _ _ _ _ (by omega), hbel.block it hib]
    exact hb.block it hit
  · have := ho'.grown (grownBy_setRow w' B #[.slice x (xs.length + ys.length) cap]) (ownblk ho' (by omega))
    rwa [← List.length_append] at this ⊢
  · rw [setRow_size]; exact Nat.le_trans hbs hbel.size
/-- A slice's end. -/
theorem sees_tail {w : World} {g : Nat} {a b : Int} (h : Sees w (.slice (some ⟨g, 0, none⟩) 2 2) [a, b]) : Sees w (.slice (some ⟨g, 1, none⟩) 1 1) [b] :=
  ⟨by simpa using (h.1.drop 1), .inr (.inr ⟨g, 1, 1, rfl, by simp, by simp, by decide, fun i hi => by
    have h0 : i = 0 := by simpa using hi
    subst h0
    exact h.cell 1 (by simp)⟩)⟩
theorem be2_tail (v : Int) : be 2 v = [v / 256 % 256, v % 256] ∧ be 1 v = [v % 256] := by simp [be]
/-- An append whose run is known, in a region that draws. -/
theorem step_app {ops : Array Oper} {o : Oper} {a : Act} {w : World} {K : Act → World → Prop} {Q : Exit → Act → World → Prop} {E : Prop} (hgd : o.guard = none) (s x : Operand)
    (ho : o.op = .call { callee := .builtin .append, args := #[s, x], argTypes := #[24, 24] }) (hty : o.type = 24) {v u v' : Value} {w' : World} (hs : a.eval s = v) (hx : a.eval x = u)
    (hr : (Builtin.append_ #[24, 24] 24 #[v, u]).run Try.prog w = .ok v' w')
    (hK : K (a.put o.dst v') w') : if Region.wanted o (yielded ops a.tmps) = true then Oper.wp Try.prog o a w K Q else E := by
  have hw : Region.wanted o (yielded ops a.tmps) = true := by simp [Region.wanted, hgd]
  rw [if_pos hw]
  unfold Oper.wp
  simp [execOp, ho, hty, resolve, invoke, builtin, hs, hx, hr, Result.andThen]
  exact hK

theorem i24 (v : Value) : (Try.prog.info? 24).map (·.size) = some (#[v] : Array Value).size := by show _ = some 1; kernel_rfl
theorem sz24 (v u : Value) : (#[v] : Array Value).size = (#[u] : Array Value).size := rfl
theorem cell24 {w : World} {g : Nat} {v : Value} (h : w.heap[g]? = some (.cells #[v] 24 (0, 0))) : w.cell? ⟨g, 0, none⟩ = some v := by rw [cell_of_row w g 0 _ _ _ h]; rfl
theorem sees1 {w : World} {g : Nat} {n : Int} (h : Sees w (.slice (some ⟨g, 0, none⟩) 2 2) (be 2 n)) : Sees w (.slice (some ⟨g, 1, none⟩) 1 1) (be 1 n) := by
  rw [(be2_tail n).2]
  rw [(be2_tail n).1] at h
  exact sees_tail h
theorem be2_mod (n : Int) : be 2 (n % 65536) = be 2 n := by simp [be]; omega
theorem be8_mod (n : Int) : be 8 (n % 18446744073709551616) = be 8 n := by simp [be]; omega

set_option maxRecDepth 100000 in
set_option maxHeartbeats 2000000 in
theorem written1 (R off : Nat) (n : Int) (B it base : Nat) (v : Value) (xs : List Int) (w : World) (hB : w.heap[B]? = some (.cells #[v] 24 (0, 0))) (hBi : B < it) (hib : it < base) (hit : it < w.heap.size) (hbs : base ≤ w.heap.size) (ho : Own w base v xs) (hl : xs.length ≤ 1000000) (hR : R < B) (hc : w.cell? ⟨R, off, none⟩ = some (.int .i64 n)) :
    Calls Try.prog 36 #[.pointer (some ⟨R, off, none⟩), .int .i64 1, .pointer (some ⟨B, 0, none⟩)] w (AppP w B it base (xs ++ be 1 n)) := by
  have GB := Lib.hid hB
  have OW := Lib.hid ho
  have BE := Lib.hid (Below.refl w.heap.size w)
  have HIT := Lib.hid hit
  have HBI := Lib.hid hBi
  have HIB := Lib.hid hib
  have HBS := Lib.hid hbs
  have HL := Lib.hid hl
  have HR := Lib.hid hR
  have HC := Lib.hid hc
  have PU : Hid (∀ W : World, Calls Try.prog 37 #[.int .u16 (n % 65536)] W (NewP W 2 (be 2 n))) := fun W => by rw [← be2_mod]; exact putb16 (n % 65536) (by omega) (by omega) W
  have WR : IntKind.u16.wrap n = n % 65536 := by show (n % 65536) = _; rfl
  have BL : Hid (xs.length + (be 1 n).length ≤ 1099511627776) := by show _ ≤ _; rw [be_len]; omega
  clear hB ho hit hBi hib hbs hl hR hc
  go_enter Try.func36, Try.ntmps36
  go_wp2_with fail
  refine wp_region_held_drew (S := fun W => Below B w W) (by kernel_rfl) ((Below.refl _ _).drew) (fun hS => ?_)
  have hb0 : Below w.heap.size w w.drew := (Below.refl _ _).drew
  have qGB := (hb0.block _ (blk_lt GB.out)).trans GB.out
  have qOW := OW.out.below hb0
  have qBE := BE.out.trans (hb0.mono BE.out.size)
  clear hb0 GB OW BE
  generalize w.drew = Wrs at hS qGB qOW qBE ⊢
  have GB := Lib.hid qGB
  have OW := Lib.hid qOW
  have BE := Lib.hid qBE
  clear qGB qOW qBE
  refine' wpAnyH_take (i := 1) ?h1x1r ?hsx1r ?hfx1r ?hrx1r ?hQx1r (Or.inl ⟨?hwx1r, ?hyx1r⟩) hS ?restx1r
  case h1x1r => (simp only [List.getElem?_toArray, List.getElem?_cons_succ, List.getElem?_cons_zero]; rfl)
  case hsx1r => kernel_rfl
  case hfx1r => kernel_rfl
  case hrx1r => kernel_rfl
  case hQx1r => exact fun _ _ _ h => h
  case hwx1r => rfl
  case hyx1r =>
    intro W hW
    go_simp
    try with_reducible rfl
  simp only [Act.put, List.setIfInBounds_toArray, List.set_cons_succ, List.set_cons_zero]
  refine' wpAnyH_take (i := 6) ?h1x6r ?hsx6r ?hfx6r ?hrx6r ?hQx6r (Or.inl ⟨?hwx6r, ?hyx6r⟩) hS ?restx6r
  case h1x6r => (simp only [List.getElem?_toArray, List.getElem?_cons_succ, List.getElem?_cons_zero]; rfl)
  case hsx6r => kernel_rfl
  case hfx6r => kernel_rfl
  case hrx6r => kernel_rfl
  case hQx6r => exact fun _ _ _ h => h
  case hwx6r => rfl
  case hyx6r =>
    intro W hW
    go_simp
    try with_reducible rfl
  simp only [Act.put, List.setIfInBounds_toArray, List.set_cons_succ, List.set_cons_zero]
  refine' wpAnyH_take (i := 2) ?h1x2r ?hsx2r ?hfx2r ?hrx2r ?hQx2r (Or.inl ⟨?hwx2r, ?hyx2r⟩) hS ?restx2r
  case h1x2r => (simp only [List.getElem?_toArray, List.getElem?_cons_succ, List.getElem?_cons_zero]; rfl)
  case hsx2r => kernel_rfl
  case hfx2r => kernel_rfl
  case hrx2r => kernel_rfl
  case hQx2r => exact fun _ _ _ h => h
  case hwx2r => rfl
  case hyx2r =>
    intro W hW
    go_simp
    try with_reducible rfl
  simp only [Act.put, List.setIfInBounds_toArray, List.set_cons_succ, List.set_cons_zero]
  refine' wpAnyH_take (i := 7) ?h1x7r ?hsx7r ?hfx7r ?hrx7r ?hQx7r (Or.inl ⟨?hwx7r, ?hyx7r⟩) hS ?restx7r
  case h1x7r => (simp only [List.getElem?_toArray, List.getElem?_cons_succ, List.getElem?_cons_zero]; rfl)
  case hsx7r => kernel_rfl
  case hfx7r => kernel_rfl
  case hrx7r => kernel_rfl
  case hQx7r => exact fun _ _ _ h => h
  case hwx7r => rfl
  case hyx7r =>
    intro W hW
    go_simp
    try with_reducible rfl
  simp only [Act.put, List.setIfInBounds_toArray, List.set_cons_succ, List.set_cons_zero]
  refine' wpAnyH_take (i := 3) ?h1x3r ?hsx3r ?hfx3r ?hrx3r ?hQx3r (Or.inl ⟨?hwx3r, ?hyx3r⟩) hS ?restx3r
  case h1x3r => (simp only [List.getElem?_toArray, List.getElem?_cons_succ, List.getElem?_cons_zero]; rfl)
  case hsx3r => kernel_rfl
  case hfx3r => kernel_rfl
  case hrx3r => kernel_rfl
  case hQx3r => exact fun _ _ _ h => h
  case hwx3r => rfl
  case hyx3r =>
    intro W hW
    have dd := (hW.cell (p := ⟨R, off, none⟩) HR.out).trans HC.out
    go_simp
    try with_reducible rfl
  simp only [Act.put, List.setIfInBounds_toArray, List.set_cons_succ, List.set_cons_zero]
  refine' wpAnyH_take (i := 4) ?h1x4r ?hsx4r ?hfx4r ?hrx4r ?hQx4r (Or.inl ⟨?hwx4r, ?hyx4r⟩) hS ?restx4r
  case h1x4r => (simp only [List.getElem?_toArray, List.getElem?_cons_succ, List.getElem?_cons_zero]; rfl)
  case hsx4r => kernel_rfl
  case hfx4r => kernel_rfl
  case hrx4r => kernel_rfl
  case hQx4r => exact fun _ _ _ h => h
  case hwx4r => rfl
  case hyx4r =>
    intro W hW
    have dd := WR
    go_simp
    try with_reducible rfl
  simp only [Act.put, List.setIfInBounds_toArray, List.set_cons_succ, List.set_cons_zero]
  refine wpAnyH_ready (rs := [0, 5]) (by kernel_rfl) (by simp) ?_
  refine' (AllReadyH.cons ?hoc0r (fun K hK => ?stc0r) (AllReadyH.cons ?hoc5r (fun K hK => ?stc5r) AllReadyH.nil))
  case hoc0r => (simp only [List.getElem?_toArray, List.getElem?_cons_zero]; rfl)
  case hoc5r => (simp only [List.getElem?_toArray, List.getElem?_cons_succ, List.getElem?_cons_zero]; rfl)
  case stc0r =>
    have dd := cell24 GB.out
    go_simp
    refine hK.out _ _ hS (fun hHeld => ?_)
    clear hK K
    try simp only [Act.put, List.setIfInBounds_toArray, List.set_cons_succ, List.set_cons_zero]
    clear hS
    have hS := hHeld
    clear hHeld
    refine wpAnyH_ready (rs := [5]) (by kernel_rfl) (by simp) ?_
    refine' (AllReadyH.cons ?hoc5rx0 (fun K hK => ?stc5rx0) AllReadyH.nil)
    case hoc5rx0 => (simp only [List.getElem?_toArray, List.getElem?_cons_succ, List.getElem?_cons_zero]; rfl)
    go_simp
    refine (PU.out Wrs).mono ?_
    rintro e Wrx0x5 ⟨g, rfl, hs, hb, _⟩
    have GB := Lib.hid ((hb.block _ (blk_lt GB.out)).trans GB.out)
    have OW := Lib.hid (OW.out.below hb)
    have BE := Lib.hid (BE.out.trans (hb.mono BE.out.size))
    have SU := Lib.hid hs
    clear hs
    go_wp2_with fail
    refine hK.out _ _ (hS.trans (hb.mono (by have := hS.size; have := HBI.out; have := HIT.out; omega))) (fun hHeld => ?_)
    clear hK K
    try simp only [Act.put, List.setIfInBounds_toArray, List.set_cons_succ, List.set_cons_zero]
    clear hS
    have hS := hHeld
    clear hHeld
    clear hb
    refine' wpAnyH_take (i := 8) ?h1x8rx0x5 ?hsx8rx0x5 ?hfx8rx0x5 ?hrx8rx0x5 ?hQx8rx0x5 (Or.inl ⟨?hwx8rx0x5, ?hyx8rx0x5⟩) hS ?restx8rx0x5
    case h1x8rx0x5 => (simp only [List.getElem?_toArray, List.getElem?_cons_succ, List.getElem?_cons_zero]; rfl)
    case hsx8rx0x5 => kernel_rfl
    case hfx8rx0x5 => kernel_rfl
    case hrx8rx0x5 => kernel_rfl
    case hQx8rx0x5 => exact fun _ _ _ h => h
    case hwx8rx0x5 => rfl
    case hyx8rx0x5 =>
      intro W hW
      have dw : IntKind.i64.wrap 1 = 1 := rfl
      go_simp
      try with_reducible rfl
    simp only [Act.put, List.setIfInBounds_toArray, List.set_cons_succ, List.set_cons_zero]
    refine wpAnyH_ready (rs := [9]) (by kernel_rfl) (by simp) ?_
    refine' (AllReadyH.cons ?hoc9rx0x5 (fun K hK => ?stc9rx0x5) AllReadyH.nil)
    case hoc9rx0x5 => (simp only [List.getElem?_toArray, List.getElem?_cons_succ, List.getElem?_cons_zero]; rfl)
    obtain ⟨xz, nz, kz, wz, hr, hbz, cz, fz, hbs, hP⟩ := app_store (W := w) (it := it) BE.out GB.out HIT.out HBI.out HIB.out (Nat.le_trans HBS.out BE.out.size) OW.out (sees1 SU.out) BL.out
    refine step_app rfl (.tmp 5) (.tmp 13) rfl rfl rfl rfl hr ?_
    have HP := Lib.hid hP
    refine hK.out _ _ hbz (fun hHeld => ?_)
    clear hK K hr hP
    simp only [Act.put, List.setIfInBounds_toArray, List.set_cons_succ, List.set_cons_zero]
    refine wpAnyH_ready (rs := [10]) (by kernel_rfl) (by simp) ?_
    refine' AllReadyH.cons ?hoc10rx0x5x9 (fun K hK => ?stc10rx0x5x9) AllReadyH.nil
    case hoc10rx0x5x9 => (simp only [List.getElem?_toArray, List.getElem?_cons_succ, List.getElem?_cons_zero]; rfl)
    go_simp
    refine hK.out _ _ hbs (fun hHeld => ?_)
    clear hK K
    try simp only [Act.put]
    refine wpAnyH_done (by kernel_rfl) ?_ _
    go_wp2_with fail
    exact bodyPost_end (results_none rfl _ _ _) rfl HP.out
  case stc5r =>
    go_simp
    refine (PU.out Wrs).mono ?_
    rintro e Wrx5 ⟨g, rfl, hs, hb, _⟩
    have GB := Lib.hid ((hb.block _ (blk_lt GB.out)).trans GB.out)
    have OW := Lib.hid (OW.out.below hb)
    have BE := Lib.hid (BE.out.trans (hb.mono BE.out.size))
    have SU := Lib.hid hs
    clear hs
    go_wp2_with fail
    refine hK.out _ _ (hS.trans (hb.mono (by have := hS.size; have := HBI.out; have := HIT.out; omega))) (fun hHeld => ?_)
    clear hK K
    try simp only [Act.put, List.setIfInBounds_toArray, List.set_cons_succ, List.set_cons_zero]
    clear hS
    have hS := hHeld
    clear hHeld
    clear hb
    refine' wpAnyH_take (i := 8) ?h1x8rx5 ?hsx8rx5 ?hfx8rx5 ?hrx8rx5 ?hQx8rx5 (Or.inl ⟨?hwx8rx5, ?hyx8rx5⟩) hS ?restx8rx5
    case h1x8rx5 => (simp only [List.getElem?_toArray, List.getElem?_cons_succ, List.getElem?_cons_zero]; rfl)
    case hsx8rx5 => kernel_rfl
    case hfx8rx5 => kernel_rfl
    case hrx8rx5 => kernel_rfl
    case hQx8rx5 => exact fun _ _ _ h => h
    case hwx8rx5 => rfl
    case hyx8rx5 =>
      intro W hW
      have dw : IntKind.i64.wrap 1 = 1 := rfl
      go_simp
      try with_reducible rfl
    simp only [Act.put, List.setIfInBounds_toArray, List.set_cons_succ, List.set_cons_zero]
    refine wpAnyH_ready (rs := [0]) (by kernel_rfl) (by simp) ?_
    refine' (AllReadyH.cons ?hoc0rx5 (fun K hK => ?stc0rx5) AllReadyH.nil)
    case hoc0rx5 => (simp only [List.getElem?_toArray, List.getElem?_cons_zero]; rfl)
    have dd := cell24 GB.out
    go_simp
    refine hK.out _ _ hS (fun hHeld => ?_)
    clear hK K
    try simp only [Act.put, List.setIfInBounds_toArray, List.set_cons_succ, List.set_cons_zero]
    clear hS
    have hS := hHeld
    clear hHeld
    refine wpAnyH_ready (rs := [9]) (by kernel_rfl) (by simp) ?_
    refine' (AllReadyH.cons ?hoc9rx5x0 (fun K hK => ?stc9rx5x0) AllReadyH.nil)
    case hoc9rx5x0 => (simp only [List.getElem?_toArray, List.getElem?_cons_succ, List.getElem?_cons_zero]; rfl)
    obtain ⟨xz, nz, kz, wz, hr, hbz, cz, fz, hbs, hP⟩ := app_store (W := w) (it := it) BE.out GB.out HIT.out HBI.out HIB.out (Nat.le_trans HBS.out BE.out.size) OW.out (sees1 SU.out) BL.out
    refine step_app rfl (.tmp 5) (.tmp 13) rfl rfl rfl rfl hr ?_
    have HP := Lib.hid hP
    refine hK.out _ _ hbz (fun hHeld => ?_)
    clear hK K hr hP
    simp only [Act.put, List.setIfInBounds_toArray, List.set_cons_succ, List.set_cons_zero]
    refine wpAnyH_ready (rs := [10]) (by kernel_rfl) (by simp) ?_
    refine' AllReadyH.cons ?hoc10rx5x0x9 (fun K hK => ?stc10rx5x0x9) AllReadyH.nil
    case hoc10rx5x0x9 => (simp only [List.getElem?_toArray, List.getElem?_cons_succ, List.getElem?_cons_zero]; rfl)
    go_simp
    refine hK.out _ _ hbs (fun hHeld => ?_)
    clear hK K
    try simp only [Act.put]
    refine wpAnyH_done (by kernel_rfl) ?_ _
    go_wp2_with fail
    exact bodyPost_end (results_none rfl _ _ _) rfl HP.out

set_option maxRecDepth 100000 in
set_option maxHeartbeats 2000000 in
theorem written2 (R off : Nat) (n : Int) (B it base : Nat) (v : Value) (xs : List Int) (w : World) (hB : w.heap[B]? = some (.cells #[v] 24 (0, 0))) (hBi : B < it) (hib : it < base) (hit : it < w.heap.size) (hbs : base ≤ w.heap.size) (ho : Own w base v xs) (hl : xs.length ≤ 1000000) (hR : R < B) (hc : w.cell? ⟨R, off, none⟩ = some (.int .i64 n)) :
    Calls Try.prog 36 #[.pointer (some ⟨R, off, none⟩), .int .i64 2, .pointer (some ⟨B, 0, none⟩)] w (AppP w B it base (xs ++ be 2 n)) := by
  have GB := Lib.hid hB
  have OW := Lib.hid ho
  have BE := Lib.hid (Below.refl w.heap.size w)
  have HIT := Lib.hid hit
  have HBI := Lib.hid hBi
  have HIB := Lib.hid hib
  have HBS := Lib.hid hbs
  have HL := Lib.hid hl
  have HR := Lib.hid hR
  have HC := Lib.hid hc
  have PU : Hid (∀ W : World, Calls Try.prog 37 #[.int .u16 (n % 65536)] W (NewP W 2 (be 2 n))) := fun W => by rw [← be2_mod]; exact putb16 (n % 65536) (by omega) (by omega) W
  have WR : IntKind.u16.wrap n = n % 65536 := by show (n % 65536) = _; rfl
  have BL : Hid (xs.length + (be 2 n).length ≤ 1099511627776) := by show _ ≤ _; rw [be_len]; omega
  clear hB ho hit hBi hib hbs hl hR hc
  go_enter Try.func36, Try.ntmps36
  go_wp2_with fail
  refine wp_region_held_drew (S := fun W => Below B w W) (by kernel_rfl) ((Below.refl _ _).drew) (fun hS => ?_)
  have hb0 : Below w.heap.size w w.drew := (Below.refl _ _).drew
  have qGB := (hb0.block _ (blk_lt GB.out)).trans GB.out
  have qOW := OW.out.below hb0
  have qBE := BE.out.trans (hb0.mono BE.out.size)
  clear hb0 GB OW BE
  generalize w.drew = Wrs at hS qGB qOW qBE ⊢
  have GB := Lib.hid qGB
  have OW := Lib.hid qOW
  have BE := Lib.hid qBE
  clear qGB qOW qBE
  refine' wpAnyH_take (i := 1) ?h1x1r ?hsx1r ?hfx1r ?hrx1r ?hQx1r (Or.inl ⟨?hwx1r, ?hyx1r⟩) hS ?restx1r
  case h1x1r => (simp only [List.getElem?_toArray, List.getElem?_cons_succ, List.getElem?_cons_zero]; rfl)
  case hsx1r => kernel_rfl
  case hfx1r => kernel_rfl
  case hrx1r => kernel_rfl
  case hQx1r => exact fun _ _ _ h => h
  case hwx1r => rfl
  case hyx1r =>
    intro W hW
    go_simp
    try with_reducible rfl
  simp only [Act.put, List.setIfInBounds_toArray, List.set_cons_succ, List.set_cons_zero]
  refine' wpAnyH_take (i := 6) ?h1x6r ?hsx6r ?hfx6r ?hrx6r ?hQx6r (Or.inl ⟨?hwx6r, ?hyx6r⟩) hS ?restx6r
  case h1x6r => (simp only [List.getElem?_toArray, List.getElem?_cons_succ, List.getElem?_cons_zero]; rfl)
  case hsx6r => kernel_rfl
  case hfx6r => kernel_rfl
  case hrx6r => kernel_rfl
  case hQx6r => exact fun _ _ _ h => h
  case hwx6r => rfl
  case hyx6r =>
    intro W hW
    go_simp
    try with_reducible rfl
  simp only [Act.put, List.setIfInBounds_toArray, List.set_cons_succ, List.set_cons_zero]
  refine' wpAnyH_take (i := 2) ?h1x2r ?hsx2r ?hfx2r ?hrx2r ?hQx2r (Or.inl ⟨?hwx2r, ?hyx2r⟩) hS ?restx2r
  case h1x2r => (simp only [List.getElem?_toArray, List.getElem?_cons_succ, List.getElem?_cons_zero]; rfl)
  case hsx2r => kernel_rfl
  case hfx2r => kernel_rfl
  case hrx2r => kernel_rfl
  case hQx2r => exact fun _ _ _ h => h
  case hwx2r => rfl
  case hyx2r =>
    intro W hW
    go_simp
    try with_reducible rfl
  simp only [Act.put, List.setIfInBounds_toArray, List.set_cons_succ, List.set_cons_zero]
  refine' wpAnyH_take (i := 7) ?h1x7r ?hsx7r ?hfx7r ?hrx7r ?hQx7r (Or.inl ⟨?hwx7r, ?hyx7r⟩) hS ?restx7r
  case h1x7r => (simp only [List.getElem?_toArray, List.getElem?_cons_succ, List.getElem?_cons_zero]; rfl)
  case hsx7r => kernel_rfl
  case hfx7r => kernel_rfl
  case hrx7r => kernel_rfl
  case hQx7r => exact fun _ _ _ h => h
  case hwx7r => rfl
  case hyx7r =>
    intro W hW
    go_simp
    try with_reducible rfl
  simp only [Act.put, List.setIfInBounds_toArray, List.set_cons_succ, List.set_cons_zero]
  refine' wpAnyH_take (i := 3) ?h1x3r ?hsx3r ?hfx3r ?hrx3r ?hQx3r (Or.inl ⟨?hwx3r, ?hyx3r⟩) hS ?restx3r
  case h1x3r => (simp only [List.getElem?_toArray, List.getElem?_cons_succ, List.getElem?_cons_zero]; rfl)
  case hsx3r => kernel_rfl
  case hfx3r => kernel_rfl
  case hrx3r => kernel_rfl
  case hQx3r => exact fun _ _ _ h => h
  case hwx3r => rfl
  case hyx3r =>
    intro W hW
    have dd := (hW.cell (p := ⟨R, off, none⟩) HR.out).trans HC.out
    go_simp
    try with_reducible rfl
  simp only [Act.put, List.setIfInBounds_toArray, List.set_cons_succ, List.set_cons_zero]
  refine' wpAnyH_take (i := 4) ?h1x4r ?hsx4r ?hfx4r ?hrx4r ?hQx4r (Or.inl ⟨?hwx4r, ?hyx4r⟩) hS ?restx4r
  case h1x4r => (simp only [List.getElem?_toArray, List.getElem?_cons_succ, List.getElem?_cons_zero]; rfl)
  case hsx4r => kernel_rfl
  case hfx4r => kernel_rfl
  case hrx4r => kernel_rfl
  case hQx4r => exact fun _ _ _ h => h
  case hwx4r => rfl
  case hyx4r =>
    intro W hW
    have dd := WR
    go_simp
    try with_reducible rfl
  simp only [Act.put, List.setIfInBounds_toArray, List.set_cons_succ, List.set_cons_zero]
  refine wpAnyH_ready (rs := [0, 5]) (by kernel_rfl) (by simp) ?_
  refine' (AllReadyH.cons ?hoc0r (fun K hK => ?stc0r) (AllReadyH.cons ?hoc5r (fun K hK => ?stc5r) AllReadyH.nil))
  case hoc0r => (simp only [List.getElem?_toArray, List.getElem?_cons_zero]; rfl)
  case hoc5r => (simp only [List.getElem?_toArray, List.getElem?_cons_succ, List.getElem?_cons_zero]; rfl)
  case stc0r =>
    have dd := cell24 GB.out
    go_simp
    refine hK.out _ _ hS (fun hHeld => ?_)
    clear hK K
    try simp only [Act.put, List.setIfInBounds_toArray, List.set_cons_succ, List.set_cons_zero]
    clear hS
    have hS := hHeld
    clear hHeld
    refine wpAnyH_ready (rs := [5]) (by kernel_rfl) (by simp) ?_
    refine' (AllReadyH.cons ?hoc5rx0 (fun K hK => ?stc5rx0) AllReadyH.nil)
    case hoc5rx0 => (simp only [List.getElem?_toArray, List.getElem?_cons_succ, List.getElem?_cons_zero]; rfl)
    go_simp
    refine (PU.out Wrs).mono ?_
    rintro e Wrx0x5 ⟨g, rfl, hs, hb, _⟩
    have GB := Lib.hid ((hb.block _ (blk_lt GB.out)).trans GB.out)
    have OW := Lib.hid (OW.out.below hb)
    have BE := Lib.hid (BE.out.trans (hb.mono BE.out.size))
    have SU := Lib.hid hs
    clear hs
    go_wp2_with fail
    refine hK.out _ _ (hS.trans (hb.mono (by have := hS.size; have := HBI.out; have := HIT.out; omega))) (fun hHeld => ?_)
    clear hK K
    try simp only [Act.put, List.setIfInBounds_toArray, List.set_cons_succ, List.set_cons_zero]
    clear hS
    have hS := hHeld
    clear hHeld
    clear hb
    refine' wpAnyH_take (i := 8) ?h1x8rx0x5 ?hsx8rx0x5 ?hfx8rx0x5 ?hrx8rx0x5 ?hQx8rx0x5 (Or.inl ⟨?hwx8rx0x5, ?hyx8rx0x5⟩) hS ?restx8rx0x5
    case h1x8rx0x5 => (simp only [List.getElem?_toArray, List.getElem?_cons_succ, List.getElem?_cons_zero]; rfl)
    case hsx8rx0x5 => kernel_rfl
    case hfx8rx0x5 => kernel_rfl
    case hrx8rx0x5 => kernel_rfl
    case hQx8rx0x5 => exact fun _ _ _ h => h
    case hwx8rx0x5 => rfl
    case hyx8rx0x5 =>
      intro W hW
      have dw : IntKind.i64.wrap 0 = 0 := rfl
      go_simp
      try with_reducible rfl
    simp only [Act.put, List.setIfInBounds_toArray, List.set_cons_succ, List.set_cons_zero]
    refine wpAnyH_ready (rs := [9]) (by kernel_rfl) (by simp) ?_
    refine' (AllReadyH.cons ?hoc9rx0x5 (fun K hK => ?stc9rx0x5) AllReadyH.nil)
    case hoc9rx0x5 => (simp only [List.getElem?_toArray, List.getElem?_cons_succ, List.getElem?_cons_zero]; rfl)
    obtain ⟨xz, nz, kz, wz, hr, hbz, cz, fz, hbs, hP⟩ := app_store (W := w) (it := it) BE.out GB.out HIT.out HBI.out HIB.out (Nat.le_trans HBS.out BE.out.size) OW.out SU.out BL.out
    refine step_app rfl (.tmp 5) (.tmp 13) rfl rfl rfl rfl hr ?_
    have HP := Lib.hid hP
    refine hK.out _ _ hbz (fun hHeld => ?_)
    clear hK K hr hP
    simp only [Act.put, List.setIfInBounds_toArray, List.set_cons_succ, List.set_cons_zero]
    refine wpAnyH_ready (rs := [10]) (by kernel_rfl) (by simp) ?_
    refine' AllReadyH.cons ?hoc10rx0x5x9 (fun K hK => ?stc10rx0x5x9) AllReadyH.nil
    case hoc10rx0x5x9 => (simp only [List.getElem?_toArray, List.getElem?_cons_succ, List.getElem?_cons_zero]; rfl)
    go_simp
    refine hK.out _ _ hbs (fun hHeld => ?_)
    clear hK K
    try simp only [Act.put]
    refine wpAnyH_done (by kernel_rfl) ?_ _
    go_wp2_with fail
    exact bodyPost_end (results_none rfl _ _ _) rfl HP.out
  case stc5r =>
    go_simp
    refine (PU.out Wrs).mono ?_
    rintro e Wrx5 ⟨g, rfl, hs, hb, _⟩
    have GB := Lib.hid ((hb.block _ (blk_lt GB.out)).trans GB.out)
    have OW := Lib.hid (OW.out.below hb)
    have BE := Lib.hid (BE.out.trans (hb.mono BE.out.size))
    have SU := Lib.hid hs
    clear hs
    go_wp2_with fail
    refine hK.out _ _ (hS.trans (hb.mono (by have := hS.size; have := HBI.out; have := HIT.out; omega))) (fun hHeld => ?_)
    clear hK K
    try simp only [Act.put, List.setIfInBounds_toArray, List.set_cons_succ, List.set_cons_zero]
    clear hS
    have hS := hHeld
    clear hHeld
    clear hb
    refine' wpAnyH_take (i := 8) ?h1x8rx5 ?hsx8rx5 ?hfx8rx5 ?hrx8rx5 ?hQx8rx5 (Or.inl ⟨?hwx8rx5, ?hyx8rx5⟩) hS ?restx8rx5
    case h1x8rx5 => (simp only [List.getElem?_toArray, List.getElem?_cons_succ, List.getElem?_cons_zero]; rfl)
    case hsx8rx5 => kernel_rfl
    case hfx8rx5 => kernel_rfl
    case hrx8rx5 => kernel_rfl
    case hQx8rx5 => exact fun _ _ _ h => h
    case hwx8rx5 => rfl
    case hyx8rx5 =>
      intro W hW
      have dw : IntKind.i64.wrap 0 = 0 := rfl
      go_simp
      try with_reducible rfl
    simp only [Act.put, List.setIfInBounds_toArray, List.set_cons_succ, List.set_cons_zero]
    refine wpAnyH_ready (rs := [0]) (by kernel_rfl) (by simp) ?_
    refine' (AllReadyH.cons ?hoc0rx5 (fun K hK => ?stc0rx5) AllReadyH.nil)
    case hoc0rx5 => (simp only [List.getElem?_toArray, List.getElem?_cons_zero]; rfl)
    have dd := cell24 GB.out
    go_simp
    refine hK.out _ _ hS (fun hHeld => ?_)
    clear hK K
    try simp only [Act.put, List.setIfInBounds_toArray, List.set_cons_succ, List.set_cons_zero]
    clear hS
    have hS := hHeld
    clear hHeld
    refine wpAnyH_ready (rs := [9]) (by kernel_rfl) (by simp) ?_
    refine' (AllReadyH.cons ?hoc9rx5x0 (fun K hK => ?stc9rx5x0) AllReadyH.nil)
    case hoc9rx5x0 => (simp only [List.getElem?_toArray, List.getElem?_cons_succ, List.getElem?_cons_zero]; rfl)
    obtain ⟨xz, nz, kz, wz, hr, hbz, cz, fz, hbs, hP⟩ := app_store (W := w) (it := it) BE.out GB.out HIT.out HBI.out HIB.out (Nat.le_trans HBS.out BE.out.size) OW.out SU.out BL.out
    refine step_app rfl (.tmp 5) (.tmp 13) rfl rfl rfl rfl hr ?_
    have HP := Lib.hid hP
    refine hK.out _ _ hbz (fun hHeld => ?_)
    clear hK K hr hP
    simp only [Act.put, List.setIfInBounds_toArray, List.set_cons_succ, List.set_cons_zero]
    refine wpAnyH_ready (rs := [10]) (by kernel_rfl) (by simp) ?_
    refine' AllReadyH.cons ?hoc10rx5x0x9 (fun K hK => ?stc10rx5x0x9) AllReadyH.nil
    case hoc10rx5x0x9 => (simp only [List.getElem?_toArray, List.getElem?_cons_succ, List.getElem?_cons_zero]; rfl)
    go_simp
    refine hK.out _ _ hbs (fun hHeld => ?_)
    clear hK K
    try simp only [Act.put]
    refine wpAnyH_done (by kernel_rfl) ?_ _
    go_wp2_with fail
    exact bodyPost_end (results_none rfl _ _ _) rfl HP.out

set_option maxRecDepth 100000 in
set_option maxHeartbeats 2000000 in
theorem writtenK (u : Value) (ys : List Int) (hy : ys.length ≤ 1000000) (B it base : Nat) (v : Value) (xs : List Int) (w : World) (hB : w.heap[B]? = some (.cells #[v] 24 (0, 0))) (hBi : B < it) (hib : it < base) (hit : it < w.heap.size) (hbs : base ≤ w.heap.size) (ho : Own w base v xs) (hl : xs.length ≤ 1000000) (hs : Sees w u ys) :
    Calls Try.prog 38 #[u, .pointer (some ⟨B, 0, none⟩)] w (AppP w B it base (xs ++ ys)) := by
  have GB := Lib.hid hB
  have OW := Lib.hid ho
  have BE := Lib.hid (Below.refl w.heap.size w)
  have HIT := Lib.hid hit
  have HBI := Lib.hid hBi
  have HIB := Lib.hid hib
  have HBS := Lib.hid hbs
  have HL := Lib.hid hl
  obtain ⟨xz, nz, kz, wz, hr, hbz, cz, fz, hbs2, hP⟩ := app_store (W := w) (it := it) BE.out hB hit hBi hib hbs ho hs (by omega)
  have HRR := Lib.hid hr
  have HP := Lib.hid hP
  have dd := cell24 hB
  clear hB ho hit hBi hib hbs hl hs hr hP hbz hbs2 hy
  go_enter Try.func38, Try.ntmps38
  go_wp2_with (at_builtin; refine wpList_app rfl _ _ rfl rfl rfl rfl HRR.out ?_)
  exact bodyPost_end (results_none rfl _ _ _) rfl HP.out

set_option maxRecDepth 100000 in
set_option maxHeartbeats 2000000 in
theorem wholeK (u : Value) (ys : List Int) (hy : ys.length ≤ 1000000) (B it base : Nat) (v : Value) (xs : List Int) (w : World) (hB : w.heap[B]? = some (.cells #[v] 24 (0, 0))) (hBi : B < it) (hib : it < base) (hit : it < w.heap.size) (hbs : base ≤ w.heap.size) (ho : Own w base v xs) (hl : xs.length ≤ 1000000) (hs : Sees w u ys) :
    Calls Try.prog 50 #[u, .pointer (some ⟨B, 0, none⟩)] w (AppP w B it base (xs ++ ys)) := by
  have GB := Lib.hid hB
  have OW := Lib.hid ho
  have BE := Lib.hid (Below.refl w.heap.size w)
  have HIT := Lib.hid hit
  have HBI := Lib.hid hBi
  have HIB := Lib.hid hib
  have HBS := Lib.hid hbs
  have HL := Lib.hid hl
  obtain ⟨xz, nz, kz, wz, hr, hbz, cz, fz, hbs2, hP⟩ := app_store (W := w) (it := it) BE.out hB hit hBi hib hbs ho hs (by omega)
  have HRR := Lib.hid hr
  have HP := Lib.hid hP
  have dd := cell24 hB
  clear hB ho hit hBi hib hbs hl hs hr hP hbz hbs2 hy
  go_enter Try.func50, Try.ntmps50
  go_wp2_with (at_builtin; refine wpList_app rfl _ _ rfl rfl rfl rfl HRR.out ?_)
  exact bodyPost_end (results_none rfl _ _ _) rfl HP.out

set_option maxRecDepth 100000 in
set_option maxHeartbeats 2000000 in
theorem writtenD (R off : Nat) (u : Value) (ys : List Int) (hy : ys.length ≤ 1000000) (B it base : Nat) (v : Value) (xs : List Int) (w : World) (hB : w.heap[B]? = some (.cells #[v] 24 (0, 0))) (hBi : B < it) (hib : it < base) (hit : it < w.heap.size) (hbs : base ≤ w.heap.size) (ho : Own w base v xs) (hl : xs.length ≤ 1000000) (hs : Sees w u ys) (hR : R < B) (hc : w.cell? ⟨R, off, none⟩ = some u) :
    Calls Try.prog 39 #[.pointer (some ⟨R, off, none⟩), .pointer (some ⟨B, 0, none⟩)] w (AppP w B it base (xs ++ ys)) := by
  have GB := Lib.hid hB
  have OW := Lib.hid ho
  have BE := Lib.hid (Below.refl w.heap.size w)
  have HIT := Lib.hid hit
  have HBI := Lib.hid hBi
  have HIB := Lib.hid hib
  have HBS := Lib.hid hbs
  have HL := Lib.hid hl
  have HR := Lib.hid hR
  have HC := Lib.hid hc
  have SU := Lib.hid hs
  have BL : Hid (xs.length + ys.length ≤ 1099511627776) := by show _ ≤ _; omega
  clear hB ho hit hBi hib hbs hl hR hc hs hy
  go_enter Try.func39, Try.ntmps39
  go_wp2_with fail
  refine wp_region_held_drew (S := fun W => Below B w W) (by kernel_rfl) ((Below.refl _ _).drew) (fun hS => ?_)
  have hb0 : Below w.heap.size w w.drew := (Below.refl _ _).drew
  have qGB := (hb0.block _ (blk_lt GB.out)).trans GB.out
  have qOW := OW.out.below hb0
  have qBE := BE.out.trans (hb0.mono BE.out.size)
  have qSU := SU.out.below hb0
  clear hb0 GB OW BE SU
  generalize w.drew = Wrs at hS qGB qOW qBE qSU ⊢
  have GB := Lib.hid qGB
  have OW := Lib.hid qOW
  have BE := Lib.hid qBE
  have SU := Lib.hid qSU
  clear qGB qOW qBE qSU
  refine' wpAnyH_take (i := 1) ?h1x1r ?hsx1r ?hfx1r ?hrx1r ?hQx1r (Or.inl ⟨?hwx1r, ?hyx1r⟩) hS ?restx1r
  case h1x1r => (simp only [List.getElem?_toArray, List.getElem?_cons_succ, List.getElem?_cons_zero]; rfl)
  case hsx1r => kernel_rfl
  case hfx1r => kernel_rfl
  case hrx1r => kernel_rfl
  case hQx1r => exact fun _ _ _ h => h
  case hwx1r => rfl
  case hyx1r =>
    intro W hW
    go_simp
    try with_reducible rfl
  simp only [Act.put, List.setIfInBounds_toArray, List.set_cons_succ, List.set_cons_zero]
  refine' wpAnyH_take (i := 2) ?h1x2r ?hsx2r ?hfx2r ?hrx2r ?hQx2r (Or.inl ⟨?hwx2r, ?hyx2r⟩) hS ?restx2r
  case h1x2r => (simp only [List.getElem?_toArray, List.getElem?_cons_succ, List.getElem?_cons_zero]; rfl)
  case hsx2r => kernel_rfl
  case hfx2r => kernel_rfl
  case hrx2r => kernel_rfl
  case hQx2r => exact fun _ _ _ h => h
  case hwx2r => rfl
  case hyx2r =>
    intro W hW
    go_simp
    try with_reducible rfl
  simp only [Act.put, List.setIfInBounds_toArray, List.set_cons_succ, List.set_cons_zero]
  refine' wpAnyH_take (i := 3) ?h1x3r ?hsx3r ?hfx3r ?hrx3r ?hQx3r (Or.inl ⟨?hwx3r, ?hyx3r⟩) hS ?restx3r
  case h1x3r => (simp only [List.getElem?_toArray, List.getElem?_cons_succ, List.getElem?_cons_zero]; rfl)
  case hsx3r => kernel_rfl
  case hfx3r => kernel_rfl
  case hrx3r => kernel_rfl
  case hQx3r => exact fun _ _ _ h => h
  case hwx3r => rfl
  case hyx3r =>
    intro W hW
    have dd := (hW.cell (p := ⟨R, off, none⟩) HR.out).trans HC.out
    go_simp
    try with_reducible rfl
  simp only [Act.put, List.setIfInBounds_toArray, List.set_cons_succ, List.set_cons_zero]
  refine wpAnyH_ready (rs := [0]) (by kernel_rfl) (by simp) ?_
  refine' (AllReadyH.cons ?hoc0r (fun K hK => ?stc0r) AllReadyH.nil)
  case hoc0r => (simp only [List.getElem?_toArray, List.getElem?_cons_zero]; rfl)
  have dd := cell24 GB.out
  go_simp
  refine hK.out _ _ hS (fun hHeld => ?_)
  clear hK K
  try simp only [Act.put, List.setIfInBounds_toArray, List.set_cons_succ, List.set_cons_zero]
  clear hS
  have hS := hHeld
  clear hHeld
  refine wpAnyH_ready (rs := [4]) (by kernel_rfl) (by simp) ?_
  refine' (AllReadyH.cons ?hoc4rx0 (fun K hK => ?stc4rx0) AllReadyH.nil)
  case hoc4rx0 => (simp only [List.getElem?_toArray, List.getElem?_cons_succ, List.getElem?_cons_zero]; rfl)
  obtain ⟨xz, nz, kz, wz, hr, hbz, cz, fz, hbs, hP⟩ := app_store (W := w) (it := it) BE.out GB.out HIT.out HBI.out HIB.out (Nat.le_trans HBS.out BE.out.size) OW.out SU.out BL.out
  refine step_app rfl (.tmp 3) (.tmp 6) rfl rfl rfl rfl hr ?_
  have HP := Lib.hid hP
  refine hK.out _ _ hbz (fun hHeld => ?_)
  clear hK K hr hP
  simp only [Act.put, List.setIfInBounds_toArray, List.set_cons_succ, List.set_cons_zero]
  refine wpAnyH_ready (rs := [5]) (by kernel_rfl) (by simp) ?_
  refine' AllReadyH.cons ?hoc5rx0x4 (fun K hK => ?stc5rx0x4) AllReadyH.nil
  case hoc5rx0x4 => (simp only [List.getElem?_toArray, List.getElem?_cons_succ, List.getElem?_cons_zero]; rfl)
  go_simp
  refine hK.out _ _ hbs (fun hHeld => ?_)
  clear hK K
  try simp only [Act.put]
  refine wpAnyH_done (by kernel_rfl) ?_ _
  go_wp2_with fail
  exact bodyPost_end (results_none rfl _ _ _) rfl HP.out

set_option maxRecDepth 100000 in
set_option maxHeartbeats 2000000 in
theorem wholeD (R off : Nat) (u : Value) (ys : List Int) (hy : ys.length ≤ 1000000) (B it base : Nat) (v : Value) (xs : List Int) (w : World) (hB : w.heap[B]? = some (.cells #[v] 24 (0, 0))) (hBi : B < it) (hib : it < base) (hit : it < w.heap.size) (hbs : base ≤ w.heap.size) (ho : Own w base v xs) (hl : xs.length ≤ 1000000) (hs : Sees w u ys) (hR : R < B) (hc : w.cell? ⟨R, off, none⟩ = some u) :
    Calls Try.prog 51 #[.pointer (some ⟨R, off, none⟩), .pointer (some ⟨B, 0, none⟩)] w (AppP w B it base (xs ++ ys)) := by
  have GB := Lib.hid hB
  have OW := Lib.hid ho
  have BE := Lib.hid (Below.refl w.heap.size w)
  have HIT := Lib.hid hit
  have HBI := Lib.hid hBi
  have HIB := Lib.hid hib
  have HBS := Lib.hid hbs
  have HL := Lib.hid hl
  have HR := Lib.hid hR
  have HC := Lib.hid hc
  have SU := Lib.hid hs
  have BL : Hid (xs.length + ys.length ≤ 1099511627776) := by show _ ≤ _; omega
  clear hB ho hit hBi hib hbs hl hR hc hs hy
  go_enter Try.func51, Try.ntmps51
  go_wp2_with fail
  refine wp_region_held_drew (S := fun W => Below B w W) (by kernel_rfl) ((Below.refl _ _).drew) (fun hS => ?_)
  have hb0 : Below w.heap.size w w.drew := (Below.refl _ _).drew
  have qGB := (hb0.block _ (blk_lt GB.out)).trans GB.out
  have qOW := OW.out.below hb0
  have qBE := BE.out.trans (hb0.mono BE.out.size)
  have qSU := SU.out.below hb0
  clear hb0 GB OW BE SU
  generalize w.drew = Wrs at hS qGB qOW qBE qSU ⊢
  have GB := Lib.hid qGB
  have OW := Lib.hid qOW
  have BE := Lib.hid qBE
  have SU := Lib.hid qSU
  clear qGB qOW qBE qSU
  refine' wpAnyH_take (i := 1) ?h1x1r ?hsx1r ?hfx1r ?hrx1r ?hQx1r (Or.inl ⟨?hwx1r, ?hyx1r⟩) hS ?restx1r
  case h1x1r => (simp only [List.getElem?_toArray, List.getElem?_cons_succ, List.getElem?_cons_zero]; rfl)
  case hsx1r => kernel_rfl
  case hfx1r => kernel_rfl
  case hrx1r => kernel_rfl
  case hQx1r => exact fun _ _ _ h => h
  case hwx1r => rfl
  case hyx1r =>
    intro W hW
    go_simp
    try with_reducible rfl
  simp only [Act.put, List.setIfInBounds_toArray, List.set_cons_succ, List.set_cons_zero]
  refine' wpAnyH_take (i := 2) ?h1x2r ?hsx2r ?hfx2r ?hrx2r ?hQx2r (Or.inl ⟨?hwx2r, ?hyx2r⟩) hS ?restx2r
  case h1x2r => (simp only [List.getElem?_toArray, List.getElem?_cons_succ, List.getElem?_cons_zero]; rfl)
  case hsx2r => kernel_rfl
  case hfx2r => kernel_rfl
  case hrx2r => kernel_rfl
  case hQx2r => exact fun _ _ _ h => h
  case hwx2r => rfl
  case hyx2r =>
    intro W hW
    go_simp
    try with_reducible rfl
  simp only [Act.put, List.setIfInBounds_toArray, List.set_cons_succ, List.set_cons_zero]
  refine' wpAnyH_take (i := 3) ?h1x3r ?hsx3r ?hfx3r ?hrx3r ?hQx3r (Or.inl ⟨?hwx3r, ?hyx3r⟩) hS ?restx3r
  case h1x3r => (simp only [List.getElem?_toArray, List.getElem?_cons_succ, List.getElem?_cons_zero]; rfl)
  case hsx3r => kernel_rfl
  case hfx3r => kernel_rfl
  case hrx3r => kernel_rfl
  case hQx3r => exact fun _ _ _ h => h
  case hwx3r => rfl
  case hyx3r =>
    intro W hW
    have dd := (hW.cell (p := ⟨R, off, none⟩) HR.out).trans HC.out
    go_simp
    try with_reducible rfl
  simp only [Act.put, List.setIfInBounds_toArray, List.set_cons_succ, List.set_cons_zero]
  refine wpAnyH_ready (rs := [0]) (by kernel_rfl) (by simp) ?_
  refine' (AllReadyH.cons ?hoc0r (fun K hK => ?stc0r) AllReadyH.nil)
  case hoc0r => (simp only [List.getElem?_toArray, List.getElem?_cons_zero]; rfl)
  have dd := cell24 GB.out
  go_simp
  refine hK.out _ _ hS (fun hHeld => ?_)
  clear hK K
  try simp only [Act.put, List.setIfInBounds_toArray, List.set_cons_succ, List.set_cons_zero]
  clear hS
  have hS := hHeld
  clear hHeld
  refine wpAnyH_ready (rs := [4]) (by kernel_rfl) (by simp) ?_
  refine' (AllReadyH.cons ?hoc4rx0 (fun K hK => ?stc4rx0) AllReadyH.nil)
  case hoc4rx0 => (simp only [List.getElem?_toArray, List.getElem?_cons_succ, List.getElem?_cons_zero]; rfl)
  obtain ⟨xz, nz, kz, wz, hr, hbz, cz, fz, hbs, hP⟩ := app_store (W := w) (it := it) BE.out GB.out HIT.out HBI.out HIB.out (Nat.le_trans HBS.out BE.out.size) OW.out SU.out BL.out
  refine step_app rfl (.tmp 3) (.tmp 6) rfl rfl rfl rfl hr ?_
  have HP := Lib.hid hP
  refine hK.out _ _ hbz (fun hHeld => ?_)
  clear hK K hr hP
  simp only [Act.put, List.setIfInBounds_toArray, List.set_cons_succ, List.set_cons_zero]
  refine wpAnyH_ready (rs := [5]) (by kernel_rfl) (by simp) ?_
  refine' AllReadyH.cons ?hoc5rx0x4 (fun K hK => ?stc5rx0x4) AllReadyH.nil
  case hoc5rx0x4 => (simp only [List.getElem?_toArray, List.getElem?_cons_succ, List.getElem?_cons_zero]; rfl)
  go_simp
  refine hK.out _ _ hbs (fun hHeld => ?_)
  clear hK K
  try simp only [Act.put]
  refine wpAnyH_done (by kernel_rfl) ?_ _
  go_wp2_with fail
  exact bodyPost_end (results_none rfl _ _ _) rfl HP.out

set_option maxRecDepth 100000 in
set_option maxHeartbeats 2000000 in
theorem wholeN (R off : Nat) (n : Int) (x : Value) (B it base : Nat) (v : Value) (xs : List Int) (w : World) (hB : w.heap[B]? = some (.cells #[v] 24 (0, 0))) (hBi : B < it) (hib : it < base) (hit : it < w.heap.size) (hbs : base ≤ w.heap.size) (ho : Own w base v xs) (hl : xs.length ≤ 1000000) (hR : R < B) (hc : w.cell? ⟨R, off, none⟩ = some (.int .i64 n)) :
    Calls Try.prog 48 #[.pointer (some ⟨R, off, none⟩), x, .pointer (some ⟨B, 0, none⟩)] w (AppP w B it base (xs ++ be 8 n)) := by
  have GB := Lib.hid hB
  have OW := Lib.hid ho
  have BE := Lib.hid (Below.refl w.heap.size w)
  have HIT := Lib.hid hit
  have HBI := Lib.hid hBi
  have HIB := Lib.hid hib
  have HBS := Lib.hid hbs
  have HL := Lib.hid hl
  have HR := Lib.hid hR
  have HC := Lib.hid hc
  obtain ⟨nm, hnm⟩ : ∃ m, m = n % 18446744073709551616 := ⟨_, rfl⟩
  have PU : Hid (∀ W : World, Calls Try.prog 49 #[.int .u64 nm] W (NewP W 8 (be 8 n))) := fun W => by rw [← be8_mod, ← hnm]; exact putb64 nm (by omega) (by omega) W
  have WR : IntKind.u64.wrap n = nm := by rw [hnm]; rfl
  have BL : Hid (xs.length + (be 8 n).length ≤ 1099511627776) := by show _ ≤ _; rw [be_len]; omega
  clear hB ho hit hBi hib hbs hl hR hc hnm
  go_enter Try.func48, Try.ntmps48
  go_wp2_with fail
  refine wp_region_held_drew (S := fun W => Below B w W) (by kernel_rfl) ((Below.refl _ _).drew) (fun hS => ?_)
  have hb0 : Below w.heap.size w w.drew := (Below.refl _ _).drew
  have qGB := (hb0.block _ (blk_lt GB.out)).trans GB.out
  have qOW := OW.out.below hb0
  have qBE := BE.out.trans (hb0.mono BE.out.size)
  clear hb0 GB OW BE
  generalize w.drew = Wrs at hS qGB qOW qBE ⊢
  have GB := Lib.hid qGB
  have OW := Lib.hid qOW
  have BE := Lib.hid qBE
  clear qGB qOW qBE
  refine' wpAnyH_take (i := 1) ?h1x1r ?hsx1r ?hfx1r ?hrx1r ?hQx1r (Or.inl ⟨?hwx1r, ?hyx1r⟩) hS ?restx1r
  case h1x1r => (simp only [List.getElem?_toArray, List.getElem?_cons_succ, List.getElem?_cons_zero]; rfl)
  case hsx1r => kernel_rfl
  case hfx1r => kernel_rfl
  case hrx1r => kernel_rfl
  case hQx1r => exact fun _ _ _ h => h
  case hwx1r => rfl
  case hyx1r =>
    intro W hW
    go_simp
    try with_reducible rfl
  simp only [Act.put, List.setIfInBounds_toArray, List.set_cons_succ, List.set_cons_zero]
  refine' wpAnyH_take (i := 2) ?h1x2r ?hsx2r ?hfx2r ?hrx2r ?hQx2r (Or.inl ⟨?hwx2r, ?hyx2r⟩) hS ?restx2r
  case h1x2r => (simp only [List.getElem?_toArray, List.getElem?_cons_succ, List.getElem?_cons_zero]; rfl)
  case hsx2r => kernel_rfl
  case hfx2r => kernel_rfl
  case hrx2r => kernel_rfl
  case hQx2r => exact fun _ _ _ h => h
  case hwx2r => rfl
  case hyx2r =>
    intro W hW
    go_simp
    try with_reducible rfl
  simp only [Act.put, List.setIfInBounds_toArray, List.set_cons_succ, List.set_cons_zero]
  refine' wpAnyH_take (i := 3) ?h1x3r ?hsx3r ?hfx3r ?hrx3r ?hQx3r (Or.inl ⟨?hwx3r, ?hyx3r⟩) hS ?restx3r
  case h1x3r => (simp only [List.getElem?_toArray, List.getElem?_cons_succ, List.getElem?_cons_zero]; rfl)
  case hsx3r => kernel_rfl
  case hfx3r => kernel_rfl
  case hrx3r => kernel_rfl
  case hQx3r => exact fun _ _ _ h => h
  case hwx3r => rfl
  case hyx3r =>
    intro W hW
    have dd := (hW.cell (p := ⟨R, off, none⟩) HR.out).trans HC.out
    go_simp
    try with_reducible rfl
  simp only [Act.put, List.setIfInBounds_toArray, List.set_cons_succ, List.set_cons_zero]
  refine' wpAnyH_take (i := 4) ?h1x4r ?hsx4r ?hfx4r ?hrx4r ?hQx4r (Or.inl ⟨?hwx4r, ?hyx4r⟩) hS ?restx4r
  case h1x4r => (simp only [List.getElem?_toArray, List.getElem?_cons_succ, List.getElem?_cons_zero]; rfl)
  case hsx4r => kernel_rfl
  case hfx4r => kernel_rfl
  case hrx4r => kernel_rfl
  case hQx4r => exact fun _ _ _ h => h
  case hwx4r => rfl
  case hyx4r =>
    intro W hW
    have dd := WR
    go_simp
    try with_reducible rfl
  simp only [Act.put, List.setIfInBounds_toArray, List.set_cons_succ, List.set_cons_zero]
  refine wpAnyH_ready (rs := [0, 5]) (by kernel_rfl) (by simp) ?_
  refine' (AllReadyH.cons ?hoc0r (fun K hK => ?stc0r) (AllReadyH.cons ?hoc5r (fun K hK => ?stc5r) AllReadyH.nil))
  case hoc0r => (simp only [List.getElem?_toArray, List.getElem?_cons_zero]; rfl)
  case hoc5r => (simp only [List.getElem?_toArray, List.getElem?_cons_succ, List.getElem?_cons_zero]; rfl)
  case stc0r =>
    have dd := cell24 GB.out
    go_simp
    refine hK.out _ _ hS (fun hHeld => ?_)
    clear hK K
    try simp only [Act.put, List.setIfInBounds_toArray, List.set_cons_succ, List.set_cons_zero]
    clear hS
    have hS := hHeld
    clear hHeld
    refine wpAnyH_ready (rs := [5]) (by kernel_rfl) (by simp) ?_
    refine' (AllReadyH.cons ?hoc5rx0 (fun K hK => ?stc5rx0) AllReadyH.nil)
    case hoc5rx0 => (simp only [List.getElem?_toArray, List.getElem?_cons_succ, List.getElem?_cons_zero]; rfl)
    go_simp
    refine (PU.out Wrs).mono ?_
    rintro e Wrx0x5 ⟨g, rfl, hs, hb, _⟩
    have GB := Lib.hid ((hb.block _ (blk_lt GB.out)).trans GB.out)
    have OW := Lib.hid (OW.out.below hb)
    have BE := Lib.hid (BE.out.trans (hb.mono BE.out.size))
    have SU := Lib.hid hs
    clear hs
    go_wp2_with fail
    refine hK.out _ _ (hS.trans (hb.mono (by have := hS.size; have := HBI.out; have := HIT.out; omega))) (fun hHeld => ?_)
    clear hK K
    try simp only [Act.put, List.setIfInBounds_toArray, List.set_cons_succ, List.set_cons_zero]
    clear hS
    have hS := hHeld
    clear hHeld
    clear hb
    refine wpAnyH_ready (rs := [6]) (by kernel_rfl) (by simp) ?_
    refine' (AllReadyH.cons ?hoc6rx0x5 (fun K hK => ?stc6rx0x5) AllReadyH.nil)
    case hoc6rx0x5 => (simp only [List.getElem?_toArray, List.getElem?_cons_succ, List.getElem?_cons_zero]; rfl)
    obtain ⟨xz, nz, kz, wz, hr, hbz, cz, fz, hbs, hP⟩ := app_store (W := w) (it := it) BE.out GB.out HIT.out HBI.out HIB.out (Nat.le_trans HBS.out BE.out.size) OW.out SU.out BL.out
    refine step_app rfl (.tmp 5) (.tmp 10) rfl rfl rfl rfl hr ?_
    have HP := Lib.hid hP
    refine hK.out _ _ hbz (fun hHeld => ?_)
    clear hK K hr hP
    simp only [Act.put, List.setIfInBounds_toArray, List.set_cons_succ, List.set_cons_zero]
    refine wpAnyH_ready (rs := [7]) (by kernel_rfl) (by simp) ?_
    refine' AllReadyH.cons ?hoc7rx0x5x6 (fun K hK => ?stc7rx0x5x6) AllReadyH.nil
    case hoc7rx0x5x6 => (simp only [List.getElem?_toArray, List.getElem?_cons_succ, List.getElem?_cons_zero]; rfl)
    go_simp
    refine hK.out _ _ hbs (fun hHeld => ?_)
    clear hK K
    try simp only [Act.put]
    refine wpAnyH_done (by kernel_rfl) ?_ _
    go_wp2_with fail
    exact bodyPost_end (results_none rfl _ _ _) rfl HP.out
  case stc5r =>
    go_simp
    refine (PU.out Wrs).mono ?_
    rintro e Wrx5 ⟨g, rfl, hs, hb, _⟩
    have GB := Lib.hid ((hb.block _ (blk_lt GB.out)).trans GB.out)
    have OW := Lib.hid (OW.out.below hb)
    have BE := Lib.hid (BE.out.trans (hb.mono BE.out.size))
    have SU := Lib.hid hs
    clear hs
    go_wp2_with fail
    refine hK.out _ _ (hS.trans (hb.mono (by have := hS.size; have := HBI.out; have := HIT.out; omega))) (fun hHeld => ?_)
    clear hK K
    try simp only [Act.put, List.setIfInBounds_toArray, List.set_cons_succ, List.set_cons_zero]
    clear hS
    have hS := hHeld
    clear hHeld
    clear hb
    refine wpAnyH_ready (rs := [0]) (by kernel_rfl) (by simp) ?_
    refine' (AllReadyH.cons ?hoc0rx5 (fun K hK => ?stc0rx5) AllReadyH.nil)
    case hoc0rx5 => (simp only [List.getElem?_toArray, List.getElem?_cons_zero]; rfl)
    have dd := cell24 GB.out
    go_simp
    refine hK.out _ _ hS (fun hHeld => ?_)
    clear hK K
    try simp only [Act.put, List.setIfInBounds_toArray, List.set_cons_succ, List.set_cons_zero]
    clear hS
    have hS := hHeld
    clear hHeld
    refine wpAnyH_ready (rs := [6]) (by kernel_rfl) (by simp) ?_
    refine' (AllReadyH.cons ?hoc6rx5x0 (fun K hK => ?stc6rx5x0) AllReadyH.nil)
    case hoc6rx5x0 => (simp only [List.getElem?_toArray, List.getElem?_cons_succ, List.getElem?_cons_zero]; rfl)
    obtain ⟨xz, nz, kz, wz, hr, hbz, cz, fz, hbs, hP⟩ := app_store (W := w) (it := it) BE.out GB.out HIT.out HBI.out HIB.out (Nat.le_trans HBS.out BE.out.size) OW.out SU.out BL.out
    refine step_app rfl (.tmp 5) (.tmp 10) rfl rfl rfl rfl hr ?_
    have HP := Lib.hid hP
    refine hK.out _ _ hbz (fun hHeld => ?_)
    clear hK K hr hP
    simp only [Act.put, List.setIfInBounds_toArray, List.set_cons_succ, List.set_cons_zero]
    refine wpAnyH_ready (rs := [7]) (by kernel_rfl) (by simp) ?_
    refine' AllReadyH.cons ?hoc7rx5x0x6 (fun K hK => ?stc7rx5x0x6) AllReadyH.nil
    case hoc7rx5x0x6 => (simp only [List.getElem?_toArray, List.getElem?_cons_succ, List.getElem?_cons_zero]; rfl)
    go_simp
    refine hK.out _ _ hbs (fun hHeld => ?_)
    clear hK K
    try simp only [Act.put]
    refine wpAnyH_done (by kernel_rfl) ?_ _
    go_wp2_with fail
    exact bodyPost_end (results_none rfl _ _ _) rfl HP.out
end Go.Proofs.Ytdohggpajhkkhaa
