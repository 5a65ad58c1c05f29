/-
  The walk of ReqApart. Condition: the arguments read as requests.
-/
import Derived.Test.YtdohggpajhkkhaaRqP
import Derived.Test.YtdohggpajhkkhaaRqO
namespace Go.Proofs.Ytdohggpajhkkhaa
open Go.RowKit
theorem right_apart {p q : Rq} (hp : RQ p) (hq : RQ q) (hd : Byt p.d) (he : Byt q.d) (h5 : p.d.length ≤ 5000) (h6 : q.d.length ≤ 5000) (h : rightQ p = true) (k : rightQ q = true) :
    ((strOfNums (encV p)).toList == (strOfNums (encV q)).toList) = sameB p q := by
  have e1 : encV p = bytR p := by unfold encV; rw [if_pos h]; rfl
  have e2 : encV q = bytR q := by unfold encV; rw [if_pos k]; rfl
  have kp := kind_bd (right_kind h)
  have kq := kind_bd (right_kind k)
  have b1 : Byt (bytR p) := fun x hx => by
    simp only [bytR, List.mem_cons] at hx
    rcases hx with rfl | rfl | hx
    · omega
    · omega
    · exact wrL_byt hp hd x hx
  have b2 : Byt (bytR q) := fun x hx => by
    simp only [bytR, List.mem_cons] at hx
    rcases hx with rfl | rfl | hx
    · omega
    · omega
    · exact wrL_byt hq he x hx
  rw [e1, e2, str_eq _ _ b1 b2]
  cases hs : sameB p q with
  | true => rw [sameB_eq hp hq hs]; simp
  | false =>
    refine decide_eq_false (fun e => ?_)
    have r1 := (right_dec hp hd h5 h).2
    have r2 := (right_dec hq he h6 k).2
    rw [e, r2] at r1
    rw [r1, sameB_refl] at hs
    cases hs
/-- A request with too many data. -/
theorem great_cell {w : World} {p : Rq} {dv : Value} (hp : RQ (bare p)) (hd : Sees w dv p.d) : ∃ x cap, dv = .slice x p.d.length cap ∧ p.d.length ≤ 9223372036854775807 ∧ (rc p dv).toArray[137]? = some (.slice x p.d.length cap) := by
  obtain ⟨x, cap, rfl, h⟩ := hd.form
  refine ⟨x, cap, rfl, h, ?_⟩
  rw [arr_at]
  exact rc_dat hp _

set_option maxRecDepth 100000 in
set_option maxHeartbeats 2000000 in
theorem apart_both {p q : Rq} (hp : RQ p) (hq : RQ q) (h5 : p.d.length ≤ 5000) (h6 : q.d.length ≤ 5000) (dv du : Value) (w : World) (hd : Sees w dv p.d) (he : Sees w du q.d) (hrp : rightQ p = true) (hrq : rightQ q = true) :
    Calls Try.prog 5 #[.agg (rc p dv).toArray, .agg (rc q du).toArray] w (AliveP w) := by
  have ia := Lib.hid (i26 hp dv)
  have ib := Lib.hid (i26 hq du)
  obtain ⟨A, hA⟩ : ∃ A, A = (rc p dv).toArray := ⟨_, rfl⟩
  obtain ⟨B, hB⟩ : ∃ B, B = (rc q du).toArray := ⟨_, rfl⟩
  rw [← hA] at ia
  rw [← hB] at ib
  obtain ⟨xa, ca, ea, xa63⟩ := hd.form
  obtain ⟨xb, cb, eb, xb63⟩ := he.form
  obtain ⟨w1, hw1⟩ : ∃ w1, w1 = w.alloc (.cells A 26) := ⟨_, rfl⟩
  obtain ⟨w2, hw2⟩ : ∃ w2, w2 = w1.alloc (.cells B 26) := ⟨_, rfl⟩
  have z1 : w1.heap.size = w.heap.size + 1 := by rw [hw1]; simp
  have b1 : Below w.heap.size w w1 := by rw [hw1]; exact (Below.refl _ _).alloc (Nat.le_refl _) _
  have b2 : Below w1.heap.size w1 w2 := by rw [hw2]; exact (Below.refl _ _).alloc (Nat.le_refl _) _
  have g1 : w2.heap[w.heap.size]? = some (.cells A 26 (0, 0)) := by rw [b2.block _ (by omega), hw1]; exact heap_alloc_new w _
  have g2 : w2.heap[w.heap.size + 1]? = some (.cells B 26 (0, 0)) := by rw [hw2, ← z1]; exact heap_alloc_new w1 _
  have BE : Hid (Below w.heap.size w w2) := b1.trans (b2.mono (by omega))
  have ca0 : w2.cell? ⟨w.heap.size, 137, none⟩ = some (.slice xa p.d.length ca) := by rw [← ea]; rw [hA] at g1; exact row_dat hp g1
  have cb0 : w2.cell? ⟨w.heap.size + 1, 137, none⟩ = some (.slice xb q.d.length cb) := by rw [← eb]; rw [hB] at g2; exact row_dat hq g2
  have EA : Hid (∀ W, Below w.heap.size w W → Calls Try.prog 8 #[.agg A] W (EncP W p)) := fun W h => by rw [hA]; exact encodeC hp h5 dv W (hd.below h)
  have EB : Hid (∀ W, Below w.heap.size w W → Calls Try.prog 8 #[.agg B] W (EncP W q)) := fun W h => by rw [hB]; exact encodeC hq h6 du W (he.below h)
  have SM : Hid (∀ W, Below w.heap.size w W → Calls Try.prog 17 #[.agg A, .agg B] W fun e w' => e = .returned (.bool (sameB p q)) ∧ Below W.heap.size W w') := fun W h => by rw [hA, hB]; exact sameC hp hq dv du W (hd.below h) (he.below h)
  have AP := Lib.hid (right_apart hp hq hd.1 he.1 h5 h6 hrp hrq)
  have ep : encE p = 0 := by unfold encE; rw [hrp]; rfl
  have eq : encE q = 0 := by unfold encE; rw [hrq]; rfl
  have EPP := Lib.hid ep
  have EQQ := Lib.hid eq
  have AL : Hid (∀ W : World, Calls Try.prog 7 #[] W (AliveP W)) := alive
  have G1 := Lib.hid g1
  have G2 := Lib.hid g2
  have HW1 := Lib.hid hw1
  have HW2 := Lib.hid hw2
  have n5 : decide (5000 < p.d.length) = false := decide_eq_false (by omega)
  have n6 : decide (5000 < q.d.length) = false := decide_eq_false (by omega)
  have k5 : ((p.d.length : Nat) : Int) ≤ 5000 := by omega
  have k6 : ((q.d.length : Nat) : Int) ≤ 5000 := by omega
  rw [← hA, ← hB]
  clear hw1 hw2 z1 b1 b2 g1 g2 hd he hA hB ea eb h5 h6 ep eq hrp hrq hp hq xa63 xb63
  generalize p.d.length = np at *
  generalize q.d.length = nq at *
  go_enter Try.func5, Try.ntmps5
  go_wp2_with (first | rw [← HW1.out, ← HW2.out] | refine wpList_load_row rfl 26 (.tmp 2) rfl w.heap.size rfl 26 A (0, 0) _ G1.out Try.underlying26 rfl ia.out ?_)
  refine (EA.out w2 BE.out).mono ?_
  rintro e w3 ⟨x1, c1, rfl, hs, hb⟩
  have B3 := Lib.hid (BE.out.trans (hb.mono BE.out.size))
  have G3 := Lib.hid ((hb.block _ (blk_lt G1.out)).trans G1.out)
  have H3 := Lib.hid ((hb.block _ (blk_lt G2.out)).trans G2.out)
  have S3 := Lib.hid hs
  rw [EPP.out]
  clear hb hs ca0 cb0 G1 G2 BE
  go_wp2_with (refine wpList_load_row rfl 26 (.tmp 3) rfl (w.heap.size + 1) rfl 26 B (0, 0) _ H3.out Try.underlying26 rfl ib.out ?_)
  refine (EB.out w3 B3.out).mono ?_
  rintro e w4 ⟨x2, c2, rfl, hs, hb⟩
  have B4 := Lib.hid (B3.out.trans (hb.mono B3.out.size))
  have G4 := Lib.hid ((hb.block _ (blk_lt G3.out)).trans G3.out)
  have H4 := Lib.hid ((hb.block _ (blk_lt H3.out)).trans H3.out)
  have S4 := Lib.hid (S3.out.below hb)
  have T4 := Lib.hid hs
  rw [EQQ.out]
  have CX : Hid (∀ W, Below w4.heap.size w4 W → (convert 24 9 (.slice x1 (encV p).length c1)).run Try.prog W = .ok (.string (strOfNums (encV p))) W) := fun W h => (S4.out.below h).str
  have CY : Hid (∀ W, Below w4.heap.size w4 W → (convert 24 9 (.slice x2 (encV q).length c2)).run Try.prog W = .ok (.string (strOfNums (encV q))) W) := fun W h => (T4.out.below h).str
  generalize strOfNums (encV p) = SX at CX AP
  generalize strOfNums (encV q) = SY at CY AP
  generalize sameB p q = sb at SM AP
  generalize (encV p).length = lp at *
  generalize (encV q).length = lq at *
  clear hb hs B3 G3 H3 S3 EA EB
  go_wp2_with fail
  refine wp_region_held_drew (S := fun W => Below w4.heap.size w4 W ∧ W.heap[w.heap.size]? = some (.cells A 26 (0, 0)) ∧ W.heap[(w.heap.size + 1)]? = some (.cells B 26 (0, 0))) (by kernel_rfl) (⟨(Below.refl _ _).drew, G4.out, H4.out⟩) (fun hS => ?_)
  have hb0 : Below w4.heap.size w4 w4.drew := (Below.refl _ _).drew
  clear hb0 
  generalize w4.drew = Wrs at hS  ⊢
  refine wpAnyH_ready (rs := [0]) (by kernel_rfl) (by simp) ?_
  refine' (AllReadyH.cons ?hoc0r (fun K hK => ?stc0r) AllReadyH.nil)
  case hoc0r => (simp only [List.getElem?_toArray, List.getElem?_cons_zero]; rfl)
  go_simp
  refine (AL.out Wrs).mono ?_
  rintro e Wrx0 ⟨rfl, hb⟩
  go_wp2_with fail
  refine hK.out _ _ (⟨hS.1.trans (hb.mono hS.1.size), (hb.block _ (blk_lt hS.2.1)).trans hS.2.1, (hb.block _ (blk_lt hS.2.2)).trans hS.2.2⟩) (fun hHeld => ?_)
  clear hK K
  try simp only [Act.put, List.setIfInBounds_toArray, List.set_cons_succ, List.set_cons_zero]
  clear hS
  have hS := hHeld
  clear hHeld
  clear hb
  refine' wpAnyH_take (i := 1) ?h1x1rx0 ?hsx1rx0 ?hfx1rx0 ?hrx1rx0 ?hQx1rx0 (Or.inl ⟨?hwx1rx0, ?hyx1rx0⟩) hS ?restx1rx0
  case h1x1rx0 => (simp only [List.getElem?_toArray, List.getElem?_cons_succ, List.getElem?_cons_zero]; rfl)
  case hsx1rx0 => kernel_rfl
  case hfx1rx0 => kernel_rfl
  case hrx1rx0 => kernel_rfl
  case hQx1rx0 => exact fun _ _ _ h => h
  case hwx1rx0 => rfl
  case hyx1rx0 =>
    intro W hW
    go_simp
    try with_reducible rfl
  simp only [Act.put, List.setIfInBounds_toArray, List.set_cons_succ, List.set_cons_zero]
  refine' wpAnyH_take (i := 2) ?h1x2rx0 ?hsx2rx0 ?hfx2rx0 ?hrx2rx0 ?hQx2rx0 (Or.inl ⟨?hwx2rx0, ?hyx2rx0⟩) hS ?restx2rx0
  case h1x2rx0 => (simp only [List.getElem?_toArray, List.getElem?_cons_succ, List.getElem?_cons_zero]; rfl)
  case hsx2rx0 => kernel_rfl
  case hfx2rx0 => kernel_rfl
  case hrx2rx0 => kernel_rfl
  case hQx2rx0 => exact fun _ _ _ h => h
  case hwx2rx0 => rfl
  case hyx2rx0 =>
    intro W hW
    go_simp
    try with_reducible rfl
  simp only [Act.put, List.setIfInBounds_toArray, List.set_cons_succ, List.set_cons_zero]
  refine' wpAnyH_take (i := 3) ?h1x3rx0 ?hsx3rx0 ?hfx3rx0 ?hrx3rx0 ?hQx3rx0 (Or.inl ⟨?hwx3rx0, ?hyx3rx0⟩) hS ?restx3rx0
  case h1x3rx0 => (simp only [List.getElem?_toArray, List.getElem?_cons_succ, List.getElem?_cons_zero]; rfl)
  case hsx3rx0 => kernel_rfl
  case hfx3rx0 => kernel_rfl
  case hrx3rx0 => kernel_rfl
  case hQx3rx0 => exact fun _ _ _ h => h
  case hwx3rx0 => rfl
  case hyx3rx0 =>
    intro W hW
    go_simp
    try with_reducible rfl
  simp only [Act.put, List.setIfInBounds_toArray, List.set_cons_succ, List.set_cons_zero]
  refine' wpAnyH_take (i := 4) ?h1x4rx0 ?hsx4rx0 ?hfx4rx0 ?hrx4rx0 ?hQx4rx0 (Or.inl ⟨?hwx4rx0, ?hyx4rx0⟩) hS ?restx4rx0
  case h1x4rx0 => (simp only [List.getElem?_toArray, List.getElem?_cons_succ, List.getElem?_cons_zero]; rfl)
  case hsx4rx0 => kernel_rfl
  case hfx4rx0 => kernel_rfl
  case hrx4rx0 => kernel_rfl
  case hQx4rx0 => exact fun _ _ _ h => h
  case hwx4rx0 => rfl
  case hyx4rx0 =>
    intro W hW
    go_simp
    try with_reducible rfl
  simp only [Act.put, List.setIfInBounds_toArray, List.set_cons_succ, List.set_cons_zero]
  refine' wpAnyH_take (i := 5) ?h1x5rx0 ?hsx5rx0 ?hfx5rx0 ?hrx5rx0 ?hQx5rx0 (Or.inl ⟨?hwx5rx0, ?hyx5rx0⟩) hS ?restx5rx0
  case h1x5rx0 => (simp only [List.getElem?_toArray, List.getElem?_cons_succ, List.getElem?_cons_zero]; rfl)
  case hsx5rx0 => kernel_rfl
  case hfx5rx0 => kernel_rfl
  case hrx5rx0 => kernel_rfl
  case hQx5rx0 => exact fun _ _ _ h => h
  case hwx5rx0 => rfl
  case hyx5rx0 =>
    intro W hW
    go_simp
    try with_reducible rfl
  simp only [Act.put, List.setIfInBounds_toArray, List.set_cons_succ, List.set_cons_zero]
  refine' wpAnyH_take (i := 6) ?h1x6rx0 ?hsx6rx0 ?hfx6rx0 ?hrx6rx0 ?hQx6rx0 (Or.inl ⟨?hwx6rx0, ?hyx6rx0⟩) hS ?restx6rx0
  case h1x6rx0 => (simp only [List.getElem?_toArray, List.getElem?_cons_succ, List.getElem?_cons_zero]; rfl)
  case hsx6rx0 => kernel_rfl
  case hfx6rx0 => kernel_rfl
  case hrx6rx0 => kernel_rfl
  case hQx6rx0 => exact fun _ _ _ h => h
  case hwx6rx0 => rfl
  case hyx6rx0 =>
    intro W hW
    go_simp
    try with_reducible rfl
  simp only [Act.put, List.setIfInBounds_toArray, List.set_cons_succ, List.set_cons_zero]
  refine' wpAnyH_take (i := 7) ?h1x7rx0 ?hsx7rx0 ?hfx7rx0 ?hrx7rx0 ?hQx7rx0 (Or.inl ⟨?hwx7rx0, ?hyx7rx0⟩) hS ?restx7rx0
  case h1x7rx0 => (simp only [List.getElem?_toArray, List.getElem?_cons_succ, List.getElem?_cons_zero]; rfl)
  case hsx7rx0 => kernel_rfl
  case hfx7rx0 => kernel_rfl
  case hrx7rx0 => kernel_rfl
  case hQx7rx0 => exact fun _ _ _ h => h
  case hwx7rx0 => rfl
  case hyx7rx0 =>
    intro W hW
    go_simp
    try with_reducible rfl
  simp only [Act.put, List.setIfInBounds_toArray, List.set_cons_succ, List.set_cons_zero]
  refine' wpAnyH_take (i := 8) ?h1x8rx0 ?hsx8rx0 ?hfx8rx0 ?hrx8rx0 ?hQx8rx0 (Or.inl ⟨?hwx8rx0, ?hyx8rx0⟩) hS ?restx8rx0
  case h1x8rx0 => (simp only [List.getElem?_toArray, List.getElem?_cons_succ, List.getElem?_cons_zero]; rfl)
  case hsx8rx0 => kernel_rfl
  case hfx8rx0 => kernel_rfl
  case hrx8rx0 => kernel_rfl
  case hQx8rx0 => exact fun _ _ _ h => h
  case hwx8rx0 => rfl
  case hyx8rx0 =>
    intro W hW
    go_simp
    try with_reducible rfl
  simp only [Act.put, List.setIfInBounds_toArray, List.set_cons_succ, List.set_cons_zero]
  refine' wpAnyH_take (i := 9) ?h1x9rx0 ?hsx9rx0 ?hfx9rx0 ?hrx9rx0 ?hQx9rx0 (Or.inl ⟨?hwx9rx0, ?hyx9rx0⟩) hS ?restx9rx0
  case h1x9rx0 => (simp only [List.getElem?_toArray, List.getElem?_cons_succ, List.getElem?_cons_zero]; rfl)
  case hsx9rx0 => kernel_rfl
  case hfx9rx0 => kernel_rfl
  case hrx9rx0 => kernel_rfl
  case hQx9rx0 => exact fun _ _ _ h => h
  case hwx9rx0 => rfl
  case hyx9rx0 =>
    intro W hW
    go_simp
    try with_reducible rfl
  simp only [Act.put, List.setIfInBounds_toArray, List.set_cons_succ, List.set_cons_zero]
  refine' wpAnyH_take (i := 11) ?h1x11rx0 ?hsx11rx0 ?hfx11rx0 ?hrx11rx0 ?hQx11rx0 (Or.inl ⟨?hwx11rx0, ?hyx11rx0⟩) hS ?restx11rx0
  case h1x11rx0 => (simp only [List.getElem?_toArray, List.getElem?_cons_succ, List.getElem?_cons_zero]; rfl)
  case hsx11rx0 => kernel_rfl
  case hfx11rx0 => kernel_rfl
  case hrx11rx0 => kernel_rfl
  case hQx11rx0 => exact fun _ _ _ h => h
  case hwx11rx0 => rfl
  case hyx11rx0 =>
    intro W hW
    go_simp
    try with_reducible rfl
  simp only [Act.put, List.setIfInBounds_toArray, List.set_cons_succ, List.set_cons_zero]
  refine' wpAnyH_take (i := 14) ?h1x14rx0 ?hsx14rx0 ?hfx14rx0 ?hrx14rx0 ?hQx14rx0 (yieldsIf_load_at ?hwx14rx0 26 (.tmp 2) ?hopx14rx0 w.heap.size 0 rfl A _ (fun W hW => range_row hW.2.1) Try.underlying26 rfl ?hix14rx0) hS ?restx14rx0
  case h1x14rx0 => (simp only [List.getElem?_toArray, List.getElem?_cons_succ, List.getElem?_cons_zero]; rfl)
  case hopx14rx0 => rfl
  case hsx14rx0 => kernel_rfl
  case hfx14rx0 => kernel_rfl
  case hrx14rx0 => kernel_rfl
  case hQx14rx0 => exact fun _ _ _ h => h
  case hwx14rx0 => rfl
  case hix14rx0 => exact ia.out
  simp only [Act.put, List.setIfInBounds_toArray, List.set_cons_succ, List.set_cons_zero]
  refine' wpAnyH_take (i := 15) ?h1x15rx0 ?hsx15rx0 ?hfx15rx0 ?hrx15rx0 ?hQx15rx0 (yieldsIf_load_at ?hwx15rx0 26 (.tmp 3) ?hopx15rx0 (w.heap.size + 1) 0 rfl B _ (fun W hW => range_row hW.2.2) Try.underlying26 rfl ?hix15rx0) hS ?restx15rx0
  case h1x15rx0 => (simp only [List.getElem?_toArray, List.getElem?_cons_succ, List.getElem?_cons_zero]; rfl)
  case hopx15rx0 => rfl
  case hsx15rx0 => kernel_rfl
  case hfx15rx0 => kernel_rfl
  case hrx15rx0 => kernel_rfl
  case hQx15rx0 => exact fun _ _ _ h => h
  case hwx15rx0 => rfl
  case hix15rx0 => exact ib.out
  simp only [Act.put, List.setIfInBounds_toArray, List.set_cons_succ, List.set_cons_zero]
  refine' wpAnyH_take (i := 10) ?h1x10rx0 ?hsx10rx0 ?hfx10rx0 ?hrx10rx0 ?hQx10rx0 (Or.inl ⟨?hwx10rx0, ?hyx10rx0⟩) hS ?restx10rx0
  case h1x10rx0 => (simp only [List.getElem?_toArray, List.getElem?_cons_succ, List.getElem?_cons_zero]; rfl)
  case hsx10rx0 => kernel_rfl
  case hfx10rx0 => kernel_rfl
  case hrx10rx0 => kernel_rfl
  case hQx10rx0 => exact fun _ _ _ h => h
  case hwx10rx0 => rfl
  case hyx10rx0 =>
    intro W hW
    have dd := CX.out W hW.1
    go_simp
    try with_reducible rfl
  simp only [Act.put, List.setIfInBounds_toArray, List.set_cons_succ, List.set_cons_zero]
  refine' wpAnyH_take (i := 12) ?h1x12rx0 ?hsx12rx0 ?hfx12rx0 ?hrx12rx0 ?hQx12rx0 (Or.inl ⟨?hwx12rx0, ?hyx12rx0⟩) hS ?restx12rx0
  case h1x12rx0 => (simp only [List.getElem?_toArray, List.getElem?_cons_succ, List.getElem?_cons_zero]; rfl)
  case hsx12rx0 => kernel_rfl
  case hfx12rx0 => kernel_rfl
  case hrx12rx0 => kernel_rfl
  case hQx12rx0 => exact fun _ _ _ h => h
  case hwx12rx0 => rfl
  case hyx12rx0 =>
    intro W hW
    have dd := CY.out W hW.1
    go_simp
    try with_reducible rfl
  simp only [Act.put, List.setIfInBounds_toArray, List.set_cons_succ, List.set_cons_zero]
  refine' wpAnyH_take (i := 13) ?h1x13rx0 ?hsx13rx0 ?hfx13rx0 ?hrx13rx0 ?hQx13rx0 (Or.inl ⟨?hwx13rx0, ?hyx13rx0⟩) hS ?restx13rx0
  case h1x13rx0 => (simp only [List.getElem?_toArray, List.getElem?_cons_succ, List.getElem?_cons_zero]; rfl)
  case hsx13rx0 => kernel_rfl
  case hfx13rx0 => kernel_rfl
  case hrx13rx0 => kernel_rfl
  case hQx13rx0 => exact fun _ _ _ h => h
  case hwx13rx0 => rfl
  case hyx13rx0 =>
    intro W hW
    have dd := AP.out
    go_simp
    try with_reducible rfl
  simp only [Act.put, List.setIfInBounds_toArray, List.set_cons_succ, List.set_cons_zero]
  refine wpAnyH_ready (rs := [16]) (by kernel_rfl) (by simp) ?_
  refine' (AllReadyH.cons ?hoc16rx0 (fun K hK => ?stc16rx0) AllReadyH.nil)
  case hoc16rx0 => (simp only [List.getElem?_toArray, List.getElem?_cons_succ, List.getElem?_cons_zero]; rfl)
  go_simp
  refine (SM.out Wrx0 (B4.out.trans (hS.1.mono B4.out.size))).mono ?_
  rintro e Wrx0x16 ⟨rfl, hb⟩
  go_wp2_with fail
  refine hK.out _ _ (⟨hS.1.trans (hb.mono hS.1.size), (hb.block _ (blk_lt hS.2.1)).trans hS.2.1, (hb.block _ (blk_lt hS.2.2)).trans hS.2.2⟩) (fun hHeld => ?_)
  clear hK K
  try simp only [Act.put, List.setIfInBounds_toArray, List.set_cons_succ, List.set_cons_zero]
  clear hS
  have hS := hHeld
  clear hHeld
  clear hb
  refine' wpAnyH_take (i := 17) ?h1x17rx0x16 ?hsx17rx0x16 ?hfx17rx0x16 ?hrx17rx0x16 ?hQx17rx0x16 (Or.inl ⟨?hwx17rx0x16, ?hyx17rx0x16⟩) hS ?restx17rx0x16
  case h1x17rx0x16 => (simp only [List.getElem?_toArray, List.getElem?_cons_succ, List.getElem?_cons_zero]; rfl)
  case hsx17rx0x16 => kernel_rfl
  case hfx17rx0x16 => kernel_rfl
  case hrx17rx0x16 => kernel_rfl
  case hQx17rx0x16 => exact fun _ _ _ h => h
  case hwx17rx0x16 => rfl
  case hyx17rx0x16 =>
    intro W hW
    go_simp
    try with_reducible rfl
  simp only [Act.put, List.setIfInBounds_toArray, List.set_cons_succ, List.set_cons_zero]
  refine' wpAnyH_take (i := 18) ?h1x18rx0x16 ?hsx18rx0x16 ?hfx18rx0x16 ?hrx18rx0x16 ?hQx18rx0x16 (Or.inl ⟨?hwx18rx0x16, ?hyx18rx0x16⟩) hS ?restx18rx0x16
  case h1x18rx0x16 => (simp only [List.getElem?_toArray, List.getElem?_cons_succ, List.getElem?_cons_zero]; rfl)
  case hsx18rx0x16 => kernel_rfl
  case hfx18rx0x16 => kernel_rfl
  case hrx18rx0x16 => kernel_rfl
  case hQx18rx0x16 => exact fun _ _ _ h => h
  case hwx18rx0x16 => rfl
  case hyx18rx0x16 =>
    intro W hW
    go_simp
    try with_reducible rfl
  simp only [Act.put, List.setIfInBounds_toArray, List.set_cons_succ, List.set_cons_zero]
  refine' wpAnyH_take (i := 19) ?h1x19rx0x16 ?hsx19rx0x16 ?hfx19rx0x16 ?hrx19rx0x16 ?hQx19rx0x16 (Or.inl ⟨?hwx19rx0x16, ?hyx19rx0x16⟩) hS ?restx19rx0x16
  case h1x19rx0x16 => (simp only [List.getElem?_toArray, List.getElem?_cons_succ, List.getElem?_cons_zero]; rfl)
  case hsx19rx0x16 => kernel_rfl
  case hfx19rx0x16 => kernel_rfl
  case hrx19rx0x16 => kernel_rfl
  case hQx19rx0x16 => exact fun _ _ _ h => h
  case hwx19rx0x16 => rfl
  case hyx19rx0x16 =>
    intro W hW
    go_simp
    try with_reducible rfl
  simp only [Act.put, List.setIfInBounds_toArray, List.set_cons_succ, List.set_cons_zero]
  refine' wpAnyH_take (i := 20) ?h1x20rx0x16 ?hsx20rx0x16 ?hfx20rx0x16 ?hrx20rx0x16 ?hQx20rx0x16 (Or.inl ⟨?hwx20rx0x16, ?hyx20rx0x16⟩) hS ?restx20rx0x16
  case h1x20rx0x16 => (simp only [List.getElem?_toArray, List.getElem?_cons_succ, List.getElem?_cons_zero]; rfl)
  case hsx20rx0x16 => kernel_rfl
  case hfx20rx0x16 => kernel_rfl
  case hrx20rx0x16 => kernel_rfl
  case hQx20rx0x16 => exact fun _ _ _ h => h
  case hwx20rx0x16 => rfl
  case hyx20rx0x16 =>
    intro W hW
    go_simp
    try with_reducible rfl
  simp only [Act.put, List.setIfInBounds_toArray, List.set_cons_succ, List.set_cons_zero]
  refine wpAnyH_done (by kernel_rfl) ?_ _
  go_wp2_with fail
  go_ret
  exact ⟨rfl, B4.out.trans (hS.1.mono B4.out.size)⟩

set_option maxRecDepth 100000 in
set_option maxHeartbeats 2000000 in
theorem apart_one {p q : Rq} (hp : RQ p) (hq : RQ q) (h5 : p.d.length ≤ 5000) (h6 : q.d.length ≤ 5000) (dv du : Value) (w : World) (hd : Sees w dv p.d) (he : Sees w du q.d) (hrp : rightQ p = true) (hrq : rightQ q = false) :
    Calls Try.prog 5 #[.agg (rc p dv).toArray, .agg (rc q du).toArray] w (AliveP w) := by
  have ia := Lib.hid (i26 hp dv)
  have ib := Lib.hid (i26 hq du)
  obtain ⟨A, hA⟩ : ∃ A, A = (rc p dv).toArray := ⟨_, rfl⟩
  obtain ⟨B, hB⟩ : ∃ B, B = (rc q du).toArray := ⟨_, rfl⟩
  rw [← hA] at ia
  rw [← hB] at ib
  obtain ⟨xa, ca, ea, xa63⟩ := hd.form
  obtain ⟨xb, cb, eb, xb63⟩ := he.form
  obtain ⟨w1, hw1⟩ : ∃ w1, w1 = w.alloc (.cells A 26) := ⟨_, rfl⟩
  obtain ⟨w2, hw2⟩ : ∃ w2, w2 = w1.alloc (.cells B 26) := ⟨_, rfl⟩
  have z1 : w1.heap.size = w.heap.size + 1 := by rw [hw1]; simp
  have b1 : Below w.heap.size w w1 := by rw [hw1]; exact (Below.refl _ _).alloc (Nat.le_refl _) _
  have b2 : Below w1.heap.size w1 w2 := by rw [hw2]; exact (Below.refl _ _).alloc (Nat.le_refl _) _
  have g1 : w2.heap[w.heap.size]? = some (.cells A 26 (0, 0)) := by rw [b2.block _ (by omega), hw1]; exact heap_alloc_new w _
  have g2 : w2.heap[w.heap.size + 1]? = some (.cells B 26 (0, 0)) := by rw [hw2, ← z1]; exact heap_alloc_new w1 _
  have BE : Hid (Below w.heap.size w w2) := b1.trans (b2.mono (by omega))
  have ca0 : w2.cell? ⟨w.heap.size, 137, none⟩ = some (.slice xa p.d.length ca) := by rw [← ea]; rw [hA] at g1; exact row_dat hp g1
  have cb0 : w2.cell? ⟨w.heap.size + 1, 137, none⟩ = some (.slice xb q.d.length cb) := by rw [← eb]; rw [hB] at g2; exact row_dat hq g2
  have EA : Hid (∀ W, Below w.heap.size w W → Calls Try.prog 8 #[.agg A] W (EncP W p)) := fun W h => by rw [hA]; exact encodeC hp h5 dv W (hd.below h)
  have EB : Hid (∀ W, Below w.heap.size w W → Calls Try.prog 8 #[.agg B] W (EncP W q)) := fun W h => by rw [hB]; exact encodeC hq h6 du W (he.below h)
  have SM : Hid (∀ W, Below w.heap.size w W → Calls Try.prog 17 #[.agg A, .agg B] W fun e w' => e = .returned (.bool (sameB p q)) ∧ Below W.heap.size W w') := fun W h => by rw [hA, hB]; exact sameC hp hq dv du W (hd.below h) (he.below h)
  have ep : encE p = 0 := by unfold encE; rw [hrp]; rfl
  have eq : encE q = 3 := by unfold encE; rw [hrq]; rfl
  have EPP := Lib.hid ep
  have EQQ := Lib.hid eq
  have AL : Hid (∀ W : World, Calls Try.prog 7 #[] W (AliveP W)) := alive
  have G1 := Lib.hid g1
  have G2 := Lib.hid g2
  have HW1 := Lib.hid hw1
  have HW2 := Lib.hid hw2
  have n5 : decide (5000 < p.d.length) = false := decide_eq_false (by omega)
  have n6 : decide (5000 < q.d.length) = false := decide_eq_false (by omega)
  have k5 : ((p.d.length : Nat) : Int) ≤ 5000 := by omega
  have k6 : ((q.d.length : Nat) : Int) ≤ 5000 := by omega
  rw [← hA, ← hB]
  clear hw1 hw2 z1 b1 b2 g1 g2 hd he hA hB ea eb h5 h6 ep eq hrp hrq hp hq xa63 xb63
  generalize p.d.length = np at *
  generalize q.d.length = nq at *
  go_enter Try.func5, Try.ntmps5
  go_wp2_with (first | rw [← HW1.out, ← HW2.out] | refine wpList_load_row rfl 26 (.tmp 2) rfl w.heap.size rfl 26 A (0, 0) _ G1.out Try.underlying26 rfl ia.out ?_)
  refine (EA.out w2 BE.out).mono ?_
  rintro e w3 ⟨x1, c1, rfl, hs, hb⟩
  have B3 := Lib.hid (BE.out.trans (hb.mono BE.out.size))
  have G3 := Lib.hid ((hb.block _ (blk_lt G1.out)).trans G1.out)
  have H3 := Lib.hid ((hb.block _ (blk_lt G2.out)).trans G2.out)
  have S3 := Lib.hid hs
  rw [EPP.out]
  clear hb hs ca0 cb0 G1 G2 BE
  go_wp2_with (refine wpList_load_row rfl 26 (.tmp 3) rfl (w.heap.size + 1) rfl 26 B (0, 0) _ H3.out Try.underlying26 rfl ib.out ?_)
  refine (EB.out w3 B3.out).mono ?_
  rintro e w4 ⟨x2, c2, rfl, hs, hb⟩
  have B4 := Lib.hid (B3.out.trans (hb.mono B3.out.size))
  have G4 := Lib.hid ((hb.block _ (blk_lt G3.out)).trans G3.out)
  have H4 := Lib.hid ((hb.block _ (blk_lt H3.out)).trans H3.out)
  have S4 := Lib.hid (S3.out.below hb)
  have T4 := Lib.hid hs
  rw [EQQ.out]
  generalize (encV p).length = lp at *
  generalize (encV q).length = lq at *
  clear hb hs B3 G3 H3 S3 EA EB
  go_wp2_with fail
  refine wp_region_held_drew (S := fun W => Below w4.heap.size w4 W ∧ W.heap[w.heap.size]? = some (.cells A 26 (0, 0)) ∧ W.heap[(w.heap.size + 1)]? = some (.cells B 26 (0, 0))) (by kernel_rfl) (⟨(Below.refl _ _).drew, G4.out, H4.out⟩) (fun hS => ?_)
  have hb0 : Below w4.heap.size w4 w4.drew := (Below.refl _ _).drew
  clear hb0 
  generalize w4.drew = Wrs at hS  ⊢
  refine wpAnyH_ready (rs := [0]) (by kernel_rfl) (by simp) ?_
  refine' (AllReadyH.cons ?hoc0r (fun K hK => ?stc0r) AllReadyH.nil)
  case hoc0r => (simp only [List.getElem?_toArray, List.getElem?_cons_zero]; rfl)
  go_simp
  refine (AL.out Wrs).mono ?_
  rintro e Wrx0 ⟨rfl, hb⟩
  go_wp2_with fail
  refine hK.out _ _ (⟨hS.1.trans (hb.mono hS.1.size), (hb.block _ (blk_lt hS.2.1)).trans hS.2.1, (hb.block _ (blk_lt hS.2.2)).trans hS.2.2⟩) (fun hHeld => ?_)
  clear hK K
  try simp only [Act.put, List.setIfInBounds_toArray, List.set_cons_succ, List.set_cons_zero]
  clear hS
  have hS := hHeld
  clear hHeld
  clear hb
  refine' wpAnyH_take (i := 1) ?h1x1rx0 ?hsx1rx0 ?hfx1rx0 ?hrx1rx0 ?hQx1rx0 (Or.inl ⟨?hwx1rx0, ?hyx1rx0⟩) hS ?restx1rx0
  case h1x1rx0 => (simp only [List.getElem?_toArray, List.getElem?_cons_succ, List.getElem?_cons_zero]; rfl)
  case hsx1rx0 => kernel_rfl
  case hfx1rx0 => kernel_rfl
  case hrx1rx0 => kernel_rfl
  case hQx1rx0 => exact fun _ _ _ h => h
  case hwx1rx0 => rfl
  case hyx1rx0 =>
    intro W hW
    go_simp
    try with_reducible rfl
  simp only [Act.put, List.setIfInBounds_toArray, List.set_cons_succ, List.set_cons_zero]
  refine' wpAnyH_take (i := 2) ?h1x2rx0 ?hsx2rx0 ?hfx2rx0 ?hrx2rx0 ?hQx2rx0 (Or.inl ⟨?hwx2rx0, ?hyx2rx0⟩) hS ?restx2rx0
  case h1x2rx0 => (simp only [List.getElem?_toArray, List.getElem?_cons_succ, List.getElem?_cons_zero]; rfl)
  case hsx2rx0 => kernel_rfl
  case hfx2rx0 => kernel_rfl
  case hrx2rx0 => kernel_rfl
  case hQx2rx0 => exact fun _ _ _ h => h
  case hwx2rx0 => rfl
  case hyx2rx0 =>
    intro W hW
    go_simp
    try with_reducible rfl
  simp only [Act.put, List.setIfInBounds_toArray, List.set_cons_succ, List.set_cons_zero]
  refine' wpAnyH_take (i := 3) ?h1x3rx0 ?hsx3rx0 ?hfx3rx0 ?hrx3rx0 ?hQx3rx0 (Or.inl ⟨?hwx3rx0, ?hyx3rx0⟩) hS ?restx3rx0
  case h1x3rx0 => (simp only [List.getElem?_toArray, List.getElem?_cons_succ, List.getElem?_cons_zero]; rfl)
  case hsx3rx0 => kernel_rfl
  case hfx3rx0 => kernel_rfl
  case hrx3rx0 => kernel_rfl
  case hQx3rx0 => exact fun _ _ _ h => h
  case hwx3rx0 => rfl
  case hyx3rx0 =>
    intro W hW
    go_simp
    try with_reducible rfl
  simp only [Act.put, List.setIfInBounds_toArray, List.set_cons_succ, List.set_cons_zero]
  refine' wpAnyH_take (i := 4) ?h1x4rx0 ?hsx4rx0 ?hfx4rx0 ?hrx4rx0 ?hQx4rx0 (Or.inl ⟨?hwx4rx0, ?hyx4rx0⟩) hS ?restx4rx0
  case h1x4rx0 => (simp only [List.getElem?_toArray, List.getElem?_cons_succ, List.getElem?_cons_zero]; rfl)
  case hsx4rx0 => kernel_rfl
  case hfx4rx0 => kernel_rfl
  case hrx4rx0 => kernel_rfl
  case hQx4rx0 => exact fun _ _ _ h => h
  case hwx4rx0 => rfl
  case hyx4rx0 =>
    intro W hW
    go_simp
    try with_reducible rfl
  simp only [Act.put, List.setIfInBounds_toArray, List.set_cons_succ, List.set_cons_zero]
  refine' wpAnyH_take (i := 5) ?h1x5rx0 ?hsx5rx0 ?hfx5rx0 ?hrx5rx0 ?hQx5rx0 (Or.inl ⟨?hwx5rx0, ?hyx5rx0⟩) hS ?restx5rx0
  case h1x5rx0 => (simp only [List.getElem?_toArray, List.getElem?_cons_succ, List.getElem?_cons_zero]; rfl)
  case hsx5rx0 => kernel_rfl
  case hfx5rx0 => kernel_rfl
  case hrx5rx0 => kernel_rfl
  case hQx5rx0 => exact fun _ _ _ h => h
  case hwx5rx0 => rfl
  case hyx5rx0 =>
    intro W hW
    go_simp
    try with_reducible rfl
  simp only [Act.put, List.setIfInBounds_toArray, List.set_cons_succ, List.set_cons_zero]
  refine' wpAnyH_take (i := 6) ?h1x6rx0 ?hsx6rx0 ?hfx6rx0 ?hrx6rx0 ?hQx6rx0 (Or.inl ⟨?hwx6rx0, ?hyx6rx0⟩) hS ?restx6rx0
  case h1x6rx0 => (simp only [List.getElem?_toArray, List.getElem?_cons_succ, List.getElem?_cons_zero]; rfl)
  case hsx6rx0 => kernel_rfl
  case hfx6rx0 => kernel_rfl
  case hrx6rx0 => kernel_rfl
  case hQx6rx0 => exact fun _ _ _ h => h
  case hwx6rx0 => rfl
  case hyx6rx0 =>
    intro W hW
    go_simp
    try with_reducible rfl
  simp only [Act.put, List.setIfInBounds_toArray, List.set_cons_succ, List.set_cons_zero]
  refine' wpAnyH_take (i := 7) ?h1x7rx0 ?hsx7rx0 ?hfx7rx0 ?hrx7rx0 ?hQx7rx0 (Or.inl ⟨?hwx7rx0, ?hyx7rx0⟩) hS ?restx7rx0
  case h1x7rx0 => (simp only [List.getElem?_toArray, List.getElem?_cons_succ, List.getElem?_cons_zero]; rfl)
  case hsx7rx0 => kernel_rfl
  case hfx7rx0 => kernel_rfl
  case hrx7rx0 => kernel_rfl
  case hQx7rx0 => exact fun _ _ _ h => h
  case hwx7rx0 => rfl
  case hyx7rx0 =>
    intro W hW
    go_simp
    try with_reducible rfl
  simp only [Act.put, List.setIfInBounds_toArray, List.set_cons_succ, List.set_cons_zero]
  refine' wpAnyH_take (i := 8) ?h1x8rx0 ?hsx8rx0 ?hfx8rx0 ?hrx8rx0 ?hQx8rx0 (Or.inl ⟨?hwx8rx0, ?hyx8rx0⟩) hS ?restx8rx0
  case h1x8rx0 => (simp only [List.getElem?_toArray, List.getElem?_cons_succ, List.getElem?_cons_zero]; rfl)
  case hsx8rx0 => kernel_rfl
  case hfx8rx0 => kernel_rfl
  case hrx8rx0 => kernel_rfl
  case hQx8rx0 => exact fun _ _ _ h => h
  case hwx8rx0 => rfl
  case hyx8rx0 =>
    intro W hW
    go_simp
    try with_reducible rfl
  simp only [Act.put, List.setIfInBounds_toArray, List.set_cons_succ, List.set_cons_zero]
  refine' wpAnyH_take (i := 9) ?h1x9rx0 ?hsx9rx0 ?hfx9rx0 ?hrx9rx0 ?hQx9rx0 (Or.inr ⟨?hwx9rx0, rfl⟩) hS ?restx9rx0
  case h1x9rx0 => (simp only [List.getElem?_toArray, List.getElem?_cons_succ, List.getElem?_cons_zero]; rfl)
  case hsx9rx0 => kernel_rfl
  case hfx9rx0 => kernel_rfl
  case hrx9rx0 => kernel_rfl
  case hQx9rx0 => exact fun _ _ _ h => h
  case hwx9rx0 => rfl
  simp only [Act.put, List.setIfInBounds_toArray, List.set_cons_succ, List.set_cons_zero]
  refine' wpAnyH_take (i := 10) ?h1x10rx0 ?hsx10rx0 ?hfx10rx0 ?hrx10rx0 ?hQx10rx0 (Or.inr ⟨?hwx10rx0, rfl⟩) hS ?restx10rx0
  case h1x10rx0 => (simp only [List.getElem?_toArray, List.getElem?_cons_succ, List.getElem?_cons_zero]; rfl)
  case hsx10rx0 => kernel_rfl
  case hfx10rx0 => kernel_rfl
  case hrx10rx0 => kernel_rfl
  case hQx10rx0 => exact fun _ _ _ h => h
  case hwx10rx0 => rfl
  simp only [Act.put, List.setIfInBounds_toArray, List.set_cons_succ, List.set_cons_zero]
  refine' wpAnyH_take (i := 11) ?h1x11rx0 ?hsx11rx0 ?hfx11rx0 ?hrx11rx0 ?hQx11rx0 (Or.inr ⟨?hwx11rx0, rfl⟩) hS ?restx11rx0
  case h1x11rx0 => (simp only [List.getElem?_toArray, List.getElem?_cons_succ, List.getElem?_cons_zero]; rfl)
  case hsx11rx0 => kernel_rfl
  case hfx11rx0 => kernel_rfl
  case hrx11rx0 => kernel_rfl
  case hQx11rx0 => exact fun _ _ _ h => h
  case hwx11rx0 => rfl
  simp only [Act.put, List.setIfInBounds_toArray, List.set_cons_succ, List.set_cons_zero]
  refine' wpAnyH_take (i := 12) ?h1x12rx0 ?hsx12rx0 ?hfx12rx0 ?hrx12rx0 ?hQx12rx0 (Or.inr ⟨?hwx12rx0, rfl⟩) hS ?restx12rx0
  case h1x12rx0 => (simp only [List.getElem?_toArray, List.getElem?_cons_succ, List.getElem?_cons_zero]; rfl)
  case hsx12rx0 => kernel_rfl
  case hfx12rx0 => kernel_rfl
  case hrx12rx0 => kernel_rfl
  case hQx12rx0 => exact fun _ _ _ h => h
  case hwx12rx0 => rfl
  simp only [Act.put, List.setIfInBounds_toArray, List.set_cons_succ, List.set_cons_zero]
  refine' wpAnyH_take (i := 13) ?h1x13rx0 ?hsx13rx0 ?hfx13rx0 ?hrx13rx0 ?hQx13rx0 (Or.inr ⟨?hwx13rx0, rfl⟩) hS ?restx13rx0
  case h1x13rx0 => (simp only [List.getElem?_toArray, List.getElem?_cons_succ, List.getElem?_cons_zero]; rfl)
  case hsx13rx0 => kernel_rfl
  case hfx13rx0 => kernel_rfl
  case hrx13rx0 => kernel_rfl
  case hQx13rx0 => exact fun _ _ _ h => h
  case hwx13rx0 => rfl
  simp only [Act.put, List.setIfInBounds_toArray, List.set_cons_succ, List.set_cons_zero]
  refine' wpAnyH_take (i := 14) ?h1x14rx0 ?hsx14rx0 ?hfx14rx0 ?hrx14rx0 ?hQx14rx0 (Or.inr ⟨?hwx14rx0, rfl⟩) hS ?restx14rx0
  case h1x14rx0 => (simp only [List.getElem?_toArray, List.getElem?_cons_succ, List.getElem?_cons_zero]; rfl)
  case hsx14rx0 => kernel_rfl
  case hfx14rx0 => kernel_rfl
  case hrx14rx0 => kernel_rfl
  case hQx14rx0 => exact fun _ _ _ h => h
  case hwx14rx0 => rfl
  simp only [Act.put, List.setIfInBounds_toArray, List.set_cons_succ, List.set_cons_zero]
  refine' wpAnyH_take (i := 15) ?h1x15rx0 ?hsx15rx0 ?hfx15rx0 ?hrx15rx0 ?hQx15rx0 (Or.inr ⟨?hwx15rx0, rfl⟩) hS ?restx15rx0
  case h1x15rx0 => (simp only [List.getElem?_toArray, List.getElem?_cons_succ, List.getElem?_cons_zero]; rfl)
  case hsx15rx0 => kernel_rfl
  case hfx15rx0 => kernel_rfl
  case hrx15rx0 => kernel_rfl
  case hQx15rx0 => exact fun _ _ _ h => h
  case hwx15rx0 => rfl
  simp only [Act.put, List.setIfInBounds_toArray, List.set_cons_succ, List.set_cons_zero]
  refine' wpAnyH_take (i := 16) ?h1x16rx0 ?hsx16rx0 ?hfx16rx0 ?hrx16rx0 ?hQx16rx0 (Or.inr ⟨?hwx16rx0, rfl⟩) hS ?restx16rx0
  case h1x16rx0 => (simp only [List.getElem?_toArray, List.getElem?_cons_succ, List.getElem?_cons_zero]; rfl)
  case hsx16rx0 => kernel_rfl
  case hfx16rx0 => kernel_rfl
  case hrx16rx0 => kernel_rfl
  case hQx16rx0 => exact fun _ _ _ h => h
  case hwx16rx0 => rfl
  simp only [Act.put, List.setIfInBounds_toArray, List.set_cons_succ, List.set_cons_zero]
  refine' wpAnyH_take (i := 17) ?h1x17rx0 ?hsx17rx0 ?hfx17rx0 ?hrx17rx0 ?hQx17rx0 (Or.inr ⟨?hwx17rx0, rfl⟩) hS ?restx17rx0
  case h1x17rx0 => (simp only [List.getElem?_toArray, List.getElem?_cons_succ, List.getElem?_cons_zero]; rfl)
  case hsx17rx0 => kernel_rfl
  case hfx17rx0 => kernel_rfl
  case hrx17rx0 => kernel_rfl
  case hQx17rx0 => exact fun _ _ _ h => h
  case hwx17rx0 => rfl
  simp only [Act.put, List.setIfInBounds_toArray, List.set_cons_succ, List.set_cons_zero]
  refine' wpAnyH_take (i := 18) ?h1x18rx0 ?hsx18rx0 ?hfx18rx0 ?hrx18rx0 ?hQx18rx0 (Or.inl ⟨?hwx18rx0, ?hyx18rx0⟩) hS ?restx18rx0
  case h1x18rx0 => (simp only [List.getElem?_toArray, List.getElem?_cons_succ, List.getElem?_cons_zero]; rfl)
  case hsx18rx0 => kernel_rfl
  case hfx18rx0 => kernel_rfl
  case hrx18rx0 => kernel_rfl
  case hQx18rx0 => exact fun _ _ _ h => h
  case hwx18rx0 => rfl
  case hyx18rx0 =>
    intro W hW
    go_simp
    try with_reducible rfl
  simp only [Act.put, List.setIfInBounds_toArray, List.set_cons_succ, List.set_cons_zero]
  refine' wpAnyH_take (i := 19) ?h1x19rx0 ?hsx19rx0 ?hfx19rx0 ?hrx19rx0 ?hQx19rx0 (Or.inl ⟨?hwx19rx0, ?hyx19rx0⟩) hS ?restx19rx0
  case h1x19rx0 => (simp only [List.getElem?_toArray, List.getElem?_cons_succ, List.getElem?_cons_zero]; rfl)
  case hsx19rx0 => kernel_rfl
  case hfx19rx0 => kernel_rfl
  case hrx19rx0 => kernel_rfl
  case hQx19rx0 => exact fun _ _ _ h => h
  case hwx19rx0 => rfl
  case hyx19rx0 =>
    intro W hW
    go_simp
    try with_reducible rfl
  simp only [Act.put, List.setIfInBounds_toArray, List.set_cons_succ, List.set_cons_zero]
  refine' wpAnyH_take (i := 20) ?h1x20rx0 ?hsx20rx0 ?hfx20rx0 ?hrx20rx0 ?hQx20rx0 (Or.inl ⟨?hwx20rx0, ?hyx20rx0⟩) hS ?restx20rx0
  case h1x20rx0 => (simp only [List.getElem?_toArray, List.getElem?_cons_succ, List.getElem?_cons_zero]; rfl)
  case hsx20rx0 => kernel_rfl
  case hfx20rx0 => kernel_rfl
  case hrx20rx0 => kernel_rfl
  case hQx20rx0 => exact fun _ _ _ h => h
  case hwx20rx0 => rfl
  case hyx20rx0 =>
    intro W hW
    go_simp
    try with_reducible rfl
  simp only [Act.put, List.setIfInBounds_toArray, List.set_cons_succ, List.set_cons_zero]
  refine wpAnyH_done (by kernel_rfl) ?_ _
  go_wp2_with fail
  go_ret
  exact ⟨rfl, B4.out.trans (hS.1.mono B4.out.size)⟩

set_option maxRecDepth 100000 in
set_option maxHeartbeats 2000000 in
theorem apart_none {p q : Rq} (hp : RQ p) (hq : RQ q) (h5 : p.d.length ≤ 5000) (h6 : q.d.length ≤ 5000) (dv du : Value) (w : World) (hd : Sees w dv p.d) (he : Sees w du q.d) (hrp : rightQ p = false) :
    Calls Try.prog 5 #[.agg (rc p dv).toArray, .agg (rc q du).toArray] w (AliveP w) := by
  have ia := Lib.hid (i26 hp dv)
  have ib := Lib.hid (i26 hq du)
  obtain ⟨A, hA⟩ : ∃ A, A = (rc p dv).toArray := ⟨_, rfl⟩
  obtain ⟨B, hB⟩ : ∃ B, B = (rc q du).toArray := ⟨_, rfl⟩
  rw [← hA] at ia
  rw [← hB] at ib
  obtain ⟨xa, ca, ea, xa63⟩ := hd.form
  obtain ⟨xb, cb, eb, xb63⟩ := he.form
  obtain ⟨w1, hw1⟩ : ∃ w1, w1 = w.alloc (.cells A 26) := ⟨_, rfl⟩
  obtain ⟨w2, hw2⟩ : ∃ w2, w2 = w1.alloc (.cells B 26) := ⟨_, rfl⟩
  have z1 : w1.heap.size = w.heap.size + 1 := by rw [hw1]; simp
  have b1 : Below w.heap.size w w1 := by rw [hw1]; exact (Below.refl _ _).alloc (Nat.le_refl _) _
  have b2 : Below w1.heap.size w1 w2 := by rw [hw2]; exact (Below.refl _ _).alloc (Nat.le_refl _) _
  have g1 : w2.heap[w.heap.size]? = some (.cells A 26 (0, 0)) := by rw [b2.block _ (by omega), hw1]; exact heap_alloc_new w _
  have g2 : w2.heap[w.heap.size + 1]? = some (.cells B 26 (0, 0)) := by rw [hw2, ← z1]; exact heap_alloc_new w1 _
  have BE : Hid (Below w.heap.size w w2) := b1.trans (b2.mono (by omega))
  have ca0 : w2.cell? ⟨w.heap.size, 137, none⟩ = some (.slice xa p.d.length ca) := by rw [← ea]; rw [hA] at g1; exact row_dat hp g1
  have cb0 : w2.cell? ⟨w.heap.size + 1, 137, none⟩ = some (.slice xb q.d.length cb) := by rw [← eb]; rw [hB] at g2; exact row_dat hq g2
  have EA : Hid (∀ W, Below w.heap.size w W → Calls Try.prog 8 #[.agg A] W (EncP W p)) := fun W h => by rw [hA]; exact encodeC hp h5 dv W (hd.below h)
  have EB : Hid (∀ W, Below w.heap.size w W → Calls Try.prog 8 #[.agg B] W (EncP W q)) := fun W h => by rw [hB]; exact encodeC hq h6 du W (he.below h)
  have SM : Hid (∀ W, Below w.heap.size w W → Calls Try.prog 17 #[.agg A, .agg B] W fun e w' => e = .returned (.bool (sameB p q)) ∧ Below W.heap.size W w') := fun W h => by rw [hA, hB]; exact sameC hp hq dv du W (hd.below h) (he.below h)
  have ep : encE p = 3 := by unfold encE; rw [hrp]; rfl
  have EPP := Lib.hid ep
  have AL : Hid (∀ W : World, Calls Try.prog 7 #[] W (AliveP W)) := alive
  have G1 := Lib.hid g1
  have G2 := Lib.hid g2
  have HW1 := Lib.hid hw1
  have HW2 := Lib.hid hw2
  have n5 : decide (5000 < p.d.length) = false := decide_eq_false (by omega)
  have n6 : decide (5000 < q.d.length) = false := decide_eq_false (by omega)
  have k5 : ((p.d.length : Nat) : Int) ≤ 5000 := by omega
  have k6 : ((q.d.length : Nat) : Int) ≤ 5000 := by omega
  rw [← hA, ← hB]
  clear hw1 hw2 z1 b1 b2 g1 g2 hd he hA hB ea eb h5 h6 ep hrp hp hq xa63 xb63
  generalize p.d.length = np at *
  generalize q.d.length = nq at *
  go_enter Try.func5, Try.ntmps5
  go_wp2_with (first | rw [← HW1.out, ← HW2.out] | refine wpList_load_row rfl 26 (.tmp 2) rfl w.heap.size rfl 26 A (0, 0) _ G1.out Try.underlying26 rfl ia.out ?_)
  refine (EA.out w2 BE.out).mono ?_
  rintro e w3 ⟨x1, c1, rfl, hs, hb⟩
  have B3 := Lib.hid (BE.out.trans (hb.mono BE.out.size))
  have G3 := Lib.hid ((hb.block _ (blk_lt G1.out)).trans G1.out)
  have H3 := Lib.hid ((hb.block _ (blk_lt G2.out)).trans G2.out)
  have S3 := Lib.hid hs
  rw [EPP.out]
  clear hb hs ca0 cb0 G1 G2 BE
  go_wp2_with (refine wpList_load_row rfl 26 (.tmp 3) rfl (w.heap.size + 1) rfl 26 B (0, 0) _ H3.out Try.underlying26 rfl ib.out ?_)
  refine (EB.out w3 B3.out).mono ?_
  rintro e w4 ⟨x2, c2, rfl, hs, hb⟩
  have B4 := Lib.hid (B3.out.trans (hb.mono B3.out.size))
  have G4 := Lib.hid ((hb.block _ (blk_lt G3.out)).trans G3.out)
  have H4 := Lib.hid ((hb.block _ (blk_lt H3.out)).trans H3.out)
  have S4 := Lib.hid (S3.out.below hb)
  have T4 := Lib.hid hs
  generalize (encV p).length = lp at *
  generalize (encV q).length = lq at *
  generalize encE q = eq
  clear hb hs B3 G3 H3 S3 EA EB
  go_wp2_with fail
  refine wp_region_held_drew (S := fun W => Below w4.heap.size w4 W ∧ W.heap[w.heap.size]? = some (.cells A 26 (0, 0)) ∧ W.heap[(w.heap.size + 1)]? = some (.cells B 26 (0, 0))) (by kernel_rfl) (⟨(Below.refl _ _).drew, G4.out, H4.out⟩) (fun hS => ?_)
  have hb0 : Below w4.heap.size w4 w4.drew := (Below.refl _ _).drew
  clear hb0 
  generalize w4.drew = Wrs at hS  ⊢
  refine wpAnyH_ready (rs := [0]) (by kernel_rfl) (by simp) ?_
  refine' (AllReadyH.cons ?hoc0r (fun K hK => ?stc0r) AllReadyH.nil)
  case hoc0r => (simp only [List.getElem?_toArray, List.getElem?_cons_zero]; rfl)
  go_simp
  refine (AL.out Wrs).mono ?_
  rintro e Wrx0 ⟨rfl, hb⟩
  go_wp2_with fail
  refine hK.out _ _ (⟨hS.1.trans (hb.mono hS.1.size), (hb.block _ (blk_lt hS.2.1)).trans hS.2.1, (hb.block _ (blk_lt hS.2.2)).trans hS.2.2⟩) (fun hHeld => ?_)
  clear hK K
  try simp only [Act.put, List.setIfInBounds_toArray, List.set_cons_succ, List.set_cons_zero]
  clear hS
  have hS := hHeld
  clear hHeld
  clear hb
  refine' wpAnyH_take (i := 1) ?h1x1rx0 ?hsx1rx0 ?hfx1rx0 ?hrx1rx0 ?hQx1rx0 (Or.inl ⟨?hwx1rx0, ?hyx1rx0⟩) hS ?restx1rx0
  case h1x1rx0 => (simp only [List.getElem?_toArray, List.getElem?_cons_succ, List.getElem?_cons_zero]; rfl)
  case hsx1rx0 => kernel_rfl
  case hfx1rx0 => kernel_rfl
  case hrx1rx0 => kernel_rfl
  case hQx1rx0 => exact fun _ _ _ h => h
  case hwx1rx0 => rfl
  case hyx1rx0 =>
    intro W hW
    go_simp
    try with_reducible rfl
  simp only [Act.put, List.setIfInBounds_toArray, List.set_cons_succ, List.set_cons_zero]
  refine' wpAnyH_take (i := 2) ?h1x2rx0 ?hsx2rx0 ?hfx2rx0 ?hrx2rx0 ?hQx2rx0 (Or.inl ⟨?hwx2rx0, ?hyx2rx0⟩) hS ?restx2rx0
  case h1x2rx0 => (simp only [List.getElem?_toArray, List.getElem?_cons_succ, List.getElem?_cons_zero]; rfl)
  case hsx2rx0 => kernel_rfl
  case hfx2rx0 => kernel_rfl
  case hrx2rx0 => kernel_rfl
  case hQx2rx0 => exact fun _ _ _ h => h
  case hwx2rx0 => rfl
  case hyx2rx0 =>
    intro W hW
    go_simp
    try with_reducible rfl
  simp only [Act.put, List.setIfInBounds_toArray, List.set_cons_succ, List.set_cons_zero]
  refine' wpAnyH_take (i := 3) ?h1x3rx0 ?hsx3rx0 ?hfx3rx0 ?hrx3rx0 ?hQx3rx0 (Or.inl ⟨?hwx3rx0, ?hyx3rx0⟩) hS ?restx3rx0
  case h1x3rx0 => (simp only [List.getElem?_toArray, List.getElem?_cons_succ, List.getElem?_cons_zero]; rfl)
  case hsx3rx0 => kernel_rfl
  case hfx3rx0 => kernel_rfl
  case hrx3rx0 => kernel_rfl
  case hQx3rx0 => exact fun _ _ _ h => h
  case hwx3rx0 => rfl
  case hyx3rx0 =>
    intro W hW
    go_simp
    try with_reducible rfl
  simp only [Act.put, List.setIfInBounds_toArray, List.set_cons_succ, List.set_cons_zero]
  refine' wpAnyH_take (i := 4) ?h1x4rx0 ?hsx4rx0 ?hfx4rx0 ?hrx4rx0 ?hQx4rx0 (Or.inl ⟨?hwx4rx0, ?hyx4rx0⟩) hS ?restx4rx0
  case h1x4rx0 => (simp only [List.getElem?_toArray, List.getElem?_cons_succ, List.getElem?_cons_zero]; rfl)
  case hsx4rx0 => kernel_rfl
  case hfx4rx0 => kernel_rfl
  case hrx4rx0 => kernel_rfl
  case hQx4rx0 => exact fun _ _ _ h => h
  case hwx4rx0 => rfl
  case hyx4rx0 =>
    intro W hW
    go_simp
    try with_reducible rfl
  simp only [Act.put, List.setIfInBounds_toArray, List.set_cons_succ, List.set_cons_zero]
  refine' wpAnyH_take (i := 5) ?h1x5rx0 ?hsx5rx0 ?hfx5rx0 ?hrx5rx0 ?hQx5rx0 (Or.inr ⟨?hwx5rx0, rfl⟩) hS ?restx5rx0
  case h1x5rx0 => (simp only [List.getElem?_toArray, List.getElem?_cons_succ, List.getElem?_cons_zero]; rfl)
  case hsx5rx0 => kernel_rfl
  case hfx5rx0 => kernel_rfl
  case hrx5rx0 => kernel_rfl
  case hQx5rx0 => exact fun _ _ _ h => h
  case hwx5rx0 => rfl
  simp only [Act.put, List.setIfInBounds_toArray, List.set_cons_succ, List.set_cons_zero]
  refine' wpAnyH_take (i := 6) ?h1x6rx0 ?hsx6rx0 ?hfx6rx0 ?hrx6rx0 ?hQx6rx0 (Or.inr ⟨?hwx6rx0, rfl⟩) hS ?restx6rx0
  case h1x6rx0 => (simp only [List.getElem?_toArray, List.getElem?_cons_succ, List.getElem?_cons_zero]; rfl)
  case hsx6rx0 => kernel_rfl
  case hfx6rx0 => kernel_rfl
  case hrx6rx0 => kernel_rfl
  case hQx6rx0 => exact fun _ _ _ h => h
  case hwx6rx0 => rfl
  simp only [Act.put, List.setIfInBounds_toArray, List.set_cons_succ, List.set_cons_zero]
  refine' wpAnyH_take (i := 7) ?h1x7rx0 ?hsx7rx0 ?hfx7rx0 ?hrx7rx0 ?hQx7rx0 (Or.inl ⟨?hwx7rx0, ?hyx7rx0⟩) hS ?restx7rx0
  case h1x7rx0 => (simp only [List.getElem?_toArray, List.getElem?_cons_succ, List.getElem?_cons_zero]; rfl)
  case hsx7rx0 => kernel_rfl
  case hfx7rx0 => kernel_rfl
  case hrx7rx0 => kernel_rfl
  case hQx7rx0 => exact fun _ _ _ h => h
  case hwx7rx0 => rfl
  case hyx7rx0 =>
    intro W hW
    go_simp
    try with_reducible rfl
  simp only [Act.put, List.setIfInBounds_toArray, List.set_cons_succ, List.set_cons_zero]
  refine' wpAnyH_take (i := 8) ?h1x8rx0 ?hsx8rx0 ?hfx8rx0 ?hrx8rx0 ?hQx8rx0 (Or.inl ⟨?hwx8rx0, ?hyx8rx0⟩) hS ?restx8rx0
  case h1x8rx0 => (simp only [List.getElem?_toArray, List.getElem?_cons_succ, List.getElem?_cons_zero]; rfl)
  case hsx8rx0 => kernel_rfl
  case hfx8rx0 => kernel_rfl
  case hrx8rx0 => kernel_rfl
  case hQx8rx0 => exact fun _ _ _ h => h
  case hwx8rx0 => rfl
  case hyx8rx0 =>
    intro W hW
    go_simp
    try with_reducible rfl
  simp only [Act.put, List.setIfInBounds_toArray, List.set_cons_succ, List.set_cons_zero]
  refine' wpAnyH_take (i := 9) ?h1x9rx0 ?hsx9rx0 ?hfx9rx0 ?hrx9rx0 ?hQx9rx0 (Or.inr ⟨?hwx9rx0, rfl⟩) hS ?restx9rx0
  case h1x9rx0 => (simp only [List.getElem?_toArray, List.getElem?_cons_succ, List.getElem?_cons_zero]; rfl)
  case hsx9rx0 => kernel_rfl
  case hfx9rx0 => kernel_rfl
  case hrx9rx0 => kernel_rfl
  case hQx9rx0 => exact fun _ _ _ h => h
  case hwx9rx0 => rfl
  simp only [Act.put, List.setIfInBounds_toArray, List.set_cons_succ, List.set_cons_zero]
  refine' wpAnyH_take (i := 10) ?h1x10rx0 ?hsx10rx0 ?hfx10rx0 ?hrx10rx0 ?hQx10rx0 (Or.inr ⟨?hwx10rx0, rfl⟩) hS ?restx10rx0
  case h1x10rx0 => (simp only [List.getElem?_toArray, List.getElem?_cons_succ, List.getElem?_cons_zero]; rfl)
  case hsx10rx0 => kernel_rfl
  case hfx10rx0 => kernel_rfl
  case hrx10rx0 => kernel_rfl
  case hQx10rx0 => exact fun _ _ _ h => h
  case hwx10rx0 => rfl
  simp only [Act.put, List.setIfInBounds_toArray, List.set_cons_succ, List.set_cons_zero]
  refine' wpAnyH_take (i := 11) ?h1x11rx0 ?hsx11rx0 ?hfx11rx0 ?hrx11rx0 ?hQx11rx0 (Or.inr ⟨?hwx11rx0, rfl⟩) hS ?restx11rx0
  case h1x11rx0 => (simp only [List.getElem?_toArray, List.getElem?_cons_succ, List.getElem?_cons_zero]; rfl)
  case hsx11rx0 => kernel_rfl
  case hfx11rx0 => kernel_rfl
  case hrx11rx0 => kernel_rfl
  case hQx11rx0 => exact fun _ _ _ h => h
  case hwx11rx0 => rfl
  simp only [Act.put, List.setIfInBounds_toArray, List.set_cons_succ, List.set_cons_zero]
  refine' wpAnyH_take (i := 12) ?h1x12rx0 ?hsx12rx0 ?hfx12rx0 ?hrx12rx0 ?hQx12rx0 (Or.inr ⟨?hwx12rx0, rfl⟩) hS ?restx12rx0
  case h1x12rx0 => (simp only [List.getElem?_toArray, List.getElem?_cons_succ, List.getElem?_cons_zero]; rfl)
  case hsx12rx0 => kernel_rfl
  case hfx12rx0 => kernel_rfl
  case hrx12rx0 => kernel_rfl
  case hQx12rx0 => exact fun _ _ _ h => h
  case hwx12rx0 => rfl
  simp only [Act.put, List.setIfInBounds_toArray, List.set_cons_succ, List.set_cons_zero]
  refine' wpAnyH_take (i := 13) ?h1x13rx0 ?hsx13rx0 ?hfx13rx0 ?hrx13rx0 ?hQx13rx0 (Or.inr ⟨?hwx13rx0, rfl⟩) hS ?restx13rx0
  case h1x13rx0 => (simp only [List.getElem?_toArray, List.getElem?_cons_succ, List.getElem?_cons_zero]; rfl)
  case hsx13rx0 => kernel_rfl
  case hfx13rx0 => kernel_rfl
  case hrx13rx0 => kernel_rfl
  case hQx13rx0 => exact fun _ _ _ h => h
  case hwx13rx0 => rfl
  simp only [Act.put, List.setIfInBounds_toArray, List.set_cons_succ, List.set_cons_zero]
  refine' wpAnyH_take (i := 14) ?h1x14rx0 ?hsx14rx0 ?hfx14rx0 ?hrx14rx0 ?hQx14rx0 (Or.inr ⟨?hwx14rx0, rfl⟩) hS ?restx14rx0
  case h1x14rx0 => (simp only [List.getElem?_toArray, List.getElem?_cons_succ, List.getElem?_cons_zero]; rfl)
  case hsx14rx0 => kernel_rfl
  case hfx14rx0 => kernel_rfl
  case hrx14rx0 => kernel_rfl
  case hQx14rx0 => exact fun _ _ _ h => h
  case hwx14rx0 => rfl
  simp only [Act.put, List.setIfInBounds_toArray, List.set_cons_succ, List.set_cons_zero]
  refine' wpAnyH_take (i := 15) ?h1x15rx0 ?hsx15rx0 ?hfx15rx0 ?hrx15rx0 ?hQx15rx0 (Or.inr ⟨?hwx15rx0, rfl⟩) hS ?restx15rx0
  case h1x15rx0 => (simp only [List.getElem?_toArray, List.getElem?_cons_succ, List.getElem?_cons_zero]; rfl)
  case hsx15rx0 => kernel_rfl
  case hfx15rx0 => kernel_rfl
  case hrx15rx0 => kernel_rfl
  case hQx15rx0 => exact fun _ _ _ h => h
  case hwx15rx0 => rfl
  simp only [Act.put, List.setIfInBounds_toArray, List.set_cons_succ, List.set_cons_zero]
  refine' wpAnyH_take (i := 16) ?h1x16rx0 ?hsx16rx0 ?hfx16rx0 ?hrx16rx0 ?hQx16rx0 (Or.inr ⟨?hwx16rx0, rfl⟩) hS ?restx16rx0
  case h1x16rx0 => (simp only [List.getElem?_toArray, List.getElem?_cons_succ, List.getElem?_cons_zero]; rfl)
  case hsx16rx0 => kernel_rfl
  case hfx16rx0 => kernel_rfl
  case hrx16rx0 => kernel_rfl
  case hQx16rx0 => exact fun _ _ _ h => h
  case hwx16rx0 => rfl
  simp only [Act.put, List.setIfInBounds_toArray, List.set_cons_succ, List.set_cons_zero]
  refine' wpAnyH_take (i := 17) ?h1x17rx0 ?hsx17rx0 ?hfx17rx0 ?hrx17rx0 ?hQx17rx0 (Or.inr ⟨?hwx17rx0, rfl⟩) hS ?restx17rx0
  case h1x17rx0 => (simp only [List.getElem?_toArray, List.getElem?_cons_succ, List.getElem?_cons_zero]; rfl)
  case hsx17rx0 => kernel_rfl
  case hfx17rx0 => kernel_rfl
  case hrx17rx0 => kernel_rfl
  case hQx17rx0 => exact fun _ _ _ h => h
  case hwx17rx0 => rfl
  simp only [Act.put, List.setIfInBounds_toArray, List.set_cons_succ, List.set_cons_zero]
  refine' wpAnyH_take (i := 18) ?h1x18rx0 ?hsx18rx0 ?hfx18rx0 ?hrx18rx0 ?hQx18rx0 (Or.inl ⟨?hwx18rx0, ?hyx18rx0⟩) hS ?restx18rx0
  case h1x18rx0 => (simp only [List.getElem?_toArray, List.getElem?_cons_succ, List.getElem?_cons_zero]; rfl)
  case hsx18rx0 => kernel_rfl
  case hfx18rx0 => kernel_rfl
  case hrx18rx0 => kernel_rfl
  case hQx18rx0 => exact fun _ _ _ h => h
  case hwx18rx0 => rfl
  case hyx18rx0 =>
    intro W hW
    go_simp
    try with_reducible rfl
  simp only [Act.put, List.setIfInBounds_toArray, List.set_cons_succ, List.set_cons_zero]
  refine' wpAnyH_take (i := 19) ?h1x19rx0 ?hsx19rx0 ?hfx19rx0 ?hrx19rx0 ?hQx19rx0 (Or.inl ⟨?hwx19rx0, ?hyx19rx0⟩) hS ?restx19rx0
  case h1x19rx0 => (simp only [List.getElem?_toArray, List.getElem?_cons_succ, List.getElem?_cons_zero]; rfl)
  case hsx19rx0 => kernel_rfl
  case hfx19rx0 => kernel_rfl
  case hrx19rx0 => kernel_rfl
  case hQx19rx0 => exact fun _ _ _ h => h
  case hwx19rx0 => rfl
  case hyx19rx0 =>
    intro W hW
    go_simp
    try with_reducible rfl
  simp only [Act.put, List.setIfInBounds_toArray, List.set_cons_succ, List.set_cons_zero]
  refine' wpAnyH_take (i := 20) ?h1x20rx0 ?hsx20rx0 ?hfx20rx0 ?hrx20rx0 ?hQx20rx0 (Or.inl ⟨?hwx20rx0, ?hyx20rx0⟩) hS ?restx20rx0
  case h1x20rx0 => (simp only [List.getElem?_toArray, List.getElem?_cons_succ, List.getElem?_cons_zero]; rfl)
  case hsx20rx0 => kernel_rfl
  case hfx20rx0 => kernel_rfl
  case hrx20rx0 => kernel_rfl
  case hQx20rx0 => exact fun _ _ _ h => h
  case hwx20rx0 => rfl
  case hyx20rx0 =>
    intro W hW
    go_simp
    try with_reducible rfl
  simp only [Act.put, List.setIfInBounds_toArray, List.set_cons_succ, List.set_cons_zero]
  refine wpAnyH_done (by kernel_rfl) ?_ _
  go_wp2_with fail
  go_ret
  exact ⟨rfl, B4.out.trans (hS.1.mono B4.out.size)⟩

set_option maxRecDepth 100000 in
set_option maxHeartbeats 2000000 in
theorem apart_great {p q : Rq} (hp : RQ (bare p)) (hq : RQ (bare q)) (dv du : Value) (w : World) (hd : Sees w dv p.d) (he : Sees w du q.d) (hg : 5000 < p.d.length ∨ 5000 < q.d.length) :
    Calls Try.prog 5 #[.agg (rc p dv).toArray, .agg (rc q du).toArray] w (AliveP w) := by
  obtain ⟨xa, ca, _, ka, ea⟩ := great_cell hp hd
  obtain ⟨xb, cb, _, kb', eb⟩ := great_cell hq he
  generalize (rc p dv).toArray = A at *
  generalize (rc q du).toArray = B at *
  obtain ⟨w1, hw1⟩ : ∃ w1, w1 = w.alloc (.cells A 26) := ⟨_, rfl⟩
  obtain ⟨w2, hw2⟩ : ∃ w2, w2 = w1.alloc (.cells B 26) := ⟨_, rfl⟩
  have z1 : w1.heap.size = w.heap.size + 1 := by rw [hw1]; simp
  have b1 : Below w.heap.size w w1 := by rw [hw1]; exact (Below.refl _ _).alloc (Nat.le_refl _) _
  have b2 : Below w1.heap.size w1 w2 := by rw [hw2]; exact (Below.refl _ _).alloc (Nat.le_refl _) _
  have g1 : w2.heap[w.heap.size]? = some (.cells A 26 (0, 0)) := by rw [b2.block _ (by omega), hw1]; exact heap_alloc_new w _
  have g2 : w2.heap[w.heap.size + 1]? = some (.cells B 26 (0, 0)) := by rw [hw2, ← z1]; exact heap_alloc_new w1 _
  have BE : Hid (Below w.heap.size w w2) := b1.trans (b2.mono (by omega))
  have ca0 : w2.cell? ⟨w.heap.size, 137, none⟩ = some (.slice xa p.d.length ca) := by rw [cell_of_row w2 _ _ _ _ _ g1]; exact ea
  have cb0 : w2.cell? ⟨w.heap.size + 1, 137, none⟩ = some (.slice xb q.d.length cb) := by rw [cell_of_row w2 _ _ _ _ _ g2]; exact eb
  have HW1 := Lib.hid hw1
  have HW2 := Lib.hid hw2
  clear hw1 hw2 z1 b1 b2 g1 g2 hd he ea eb hp hq
  generalize p.d.length = np at *
  generalize q.d.length = nq at *
  by_cases hp5 : 5000 < np
  · have n5 : decide (5000 < np) = true := decide_eq_true hp5
    have k5 : (5000 : Int) < (np : Int) := by omega
    clear hg
    go_enter Try.func5, Try.ntmps5
    go_wp2_with (first | rw [← HW1.out, ← HW2.out])
    refine (alive _).mono ?_
    rintro e w3 ⟨rfl, hb⟩
    have B3 := Lib.hid (BE.out.trans (hb.mono BE.out.size))
    clear hb
    go_wp2_with fail
    go_ret
    exact ⟨rfl, B3.out⟩
  · have hq5 : 5000 < nq := by omega
    have n5 : decide (5000 < np) = false := decide_eq_false hp5
    have n6 : decide (5000 < nq) = true := decide_eq_true hq5
    have k5 : ((np : Nat) : Int) ≤ 5000 := by omega
    have k6 : (5000 : Int) < (nq : Int) := by omega
    clear hg
    go_enter Try.func5, Try.ntmps5
    go_wp2_with (first | rw [← HW1.out, ← HW2.out])
    refine (alive _).mono ?_
    rintro e w3 ⟨rfl, hb⟩
    have B3 := Lib.hid (BE.out.trans (hb.mono BE.out.size))
    clear hb
    go_wp2_with fail
    go_ret
    exact ⟨rfl, B3.out⟩
end Go.Proofs.Ytdohggpajhkkhaa
