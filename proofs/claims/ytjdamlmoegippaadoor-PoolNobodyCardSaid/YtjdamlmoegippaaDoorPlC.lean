/-
  Contract of pool.New of a disk that a call made, where the extents have room on it. Condition: the disk stands in memory.
-/
import Derived.Test.YtjdamlmoegippaaDoorPlB
import Derived.Test.YtjdamlmoegippaaDoorExK
namespace Go.Proofs.YtjdamlmoegippaaDoor.pl
open Go.RowKit
/-- A pool in memory: its disk, its field, its log, and where its first extent stands. -/
structure PL (w : World) (p gd gf gb : Nat) (lg : Value) (fr : Int) : Prop where
  row : w.heap[p]? = some (.cells #[.pointer (some ⟨gd, 0, none⟩), .pointer (some ⟨gf, 0, none⟩), lg, .func (.func 28) #[] #[.pointer (some ⟨gb, 0, none⟩)]] 33 (0, 0))
  box : w.heap[gb]? = some (.cells #[.int .i64 fr] 3 (0, 0))
theorem cell_row {w : World} {g : Nat} {cs : Array Value} {t : TypeId} {fr : Nat × Nat} (h : w.heap[g]? = some (.cells cs t fr)) (i : Nat) : w.cell? ⟨g, i, none⟩ = cs[i]? := by
  simp [World.cell?, h]
def NewPP (w : World) (gd ct : Nat) (lg : Value) (fr : Int) (e : Ending) (w' : World) : Prop := ∃ p gf gb rb mb wb, e = .returned (.tuple #[.pointer (some ⟨p, 0, none⟩), .int .i64 0]) ∧ PL w' p gd gf gb lg fr ∧ ex.FD w' gf rb mb wb ct (fun _ => 0) (fun _ => ex.a0) ∧
  (w.heap.size ≤ p ∧ w.heap.size ≤ gf ∧ w.heap.size ≤ gb ∧ w.heap.size ≤ rb ∧ w.heap.size ≤ mb ∧ w.heap.size ≤ wb) ∧ Below w.heap.size w w'
theorem sizeB {w : World} {g N sb hb : Nat} {wv : Value} {su : Nat → Option Nat} {ws : List (Nat × Nat)} {rg : List Value} {c p : Int} {d : Bool} {K : Nat} (h : dk.DK w g N sb hb wv su ws rg c p d K) : Calls Tryd.prog 26 #[.pointer (some ⟨g, 0, none⟩)] w fun e w' => e = .returned (.int .i64 N) ∧ Below w.heap.size w w' :=
  (dk.sizeD h).mono fun _ _ ⟨h1, h2⟩ => ⟨h1, h2 ▸ Below.refl _ _⟩
set_option maxRecDepth 100000 in
set_option maxHeartbeats 8000000 in
theorem new_ok {gd N sb hb : Nat} {wv : Value} {su : Nat → Option Nat} {ws : List (Nat × Nat)} {rg : List Value} {c p : Int} {d : Bool} {K : Nat} (w : World) (h : dk.DK w gd N sb hb wv su ws rg c p d K) (fr ct : Nat) (x : Option Addr) (h1 : 1 ≤ ct) (h2 : ct ≤ 2048) (h3 : fr + ct ≤ N) :
    Calls Tryd.prog 10 #[.pointer (some ⟨gd, 0, none⟩), .int .i64 fr, .int .i64 ct, .pointer x] w (NewPP w gd ct (.pointer x) fr) := by
  obtain ⟨W0, hW0⟩ : ∃ W0, W0 = w.alloc (.cells #[.int .i64 fr] 3) := ⟨_, rfl⟩
  have b0 : Below w.heap.size w W0 := by rw [hW0]; exact (Below.refl _ _).alloc (Nat.le_refl _) _
  have G0 : Hid (W0.heap[w.heap.size]? = some (.cells #[.int .i64 fr] 3 (0, 0))) := by show _ = _; rw [hW0]; exact heap_alloc_new w _
  have DD := Lib.hid (h.below b0)
  have BE := Lib.hid b0
  have HW0 := Lib.hid hW0
  have n2 := h.n2
  have n1 := h.n1
  have NF := Lib.hid (ex.newF ct h1 h2)
  have e1 : ((N : Int) == 0) = false := by simp; omega
  have e2 : ¬ (fr : Int) < 0 := by omega
  have hw : IntKind.i64.wrap ((N : Int) - (fr : Int)) = (N : Int) - (fr : Int) := IntWalk.i64_in _ (by omega)
  have d2 : decide ((fr : Int) < 0) = false := decide_eq_false e2
  have d3 : decide ((N : Int) - (fr : Int) < (ct : Int)) = false := decide_eq_false (by omega)
  have e3 : ¬ ((N : Int) - (fr : Int) < (ct : Int)) := by omega
  clear hW0 b0 h h1 h2 h3 n1 n2
  go_enter Tryd.func10, Tryd.ntmps10
  go_upto_region 1 with (fail)
  rw [← HW0.out]
  go_wp2_with fail
  refine (dk.sizeD DD.out).mono ?_
  rintro e w1 ⟨rfl, rfl⟩
  go_upto_region 3 with (fail)
  have GP := G0
  refine wp_region_held_drew (S := fun W => Below W0.heap.size W0 W) (by kernel_rfl) ((Below.refl _ _).drew) (fun hS => ?_)
  have hb0 : Below W0.heap.size W0 W0.drew := (Below.refl _ _).drew
  have qBE := BE.out.trans (hb0.mono BE.out.size)
  have qG0 := (hb0.block _ (blk_lt G0.out)).trans G0.out
  have qDD := DD.out.below hb0
  clear hb0 BE G0 DD
  generalize W0.drew = Wns at hS qBE qG0 qDD ⊢
  have BE := Lib.hid qBE
  have G0 := Lib.hid qG0
  have DD := Lib.hid qDD
  clear qBE qG0 qDD
  refine' wpAnyH_take (i := 0) ?h1x0n ?hsx0n ?hfx0n ?hrx0n ?hQx0n (Or.inl ⟨?hwx0n, ?hyx0n⟩) hS ?restx0n
  case h1x0n => (simp only [List.getElem?_toArray, List.getElem?_cons_zero]; rfl)
  case hsx0n | hfx0n | hrx0n => kernel_rfl
  case hQx0n => exact fun _ _ _ h => h
  case hwx0n => rfl
  case hyx0n =>
    intro W hW
    have ck := (hW.cell (p := ⟨w.heap.size, 0, none⟩) (blk_lt GP.out)).trans (cell_row GP.out 0)
    simp at ck
    go_simp
    try with_reducible rfl
  simp only [Act.put, List.setIfInBounds_toArray, List.set_cons_succ, List.set_cons_zero]
  refine' wpAnyH_take (i := 1) ?h1x1n ?hsx1n ?hfx1n ?hrx1n ?hQx1n (Or.inl ⟨?hwx1n, ?hyx1n⟩) hS ?restx1n
  case h1x1n => (simp only [List.getElem?_toArray, List.getElem?_cons_succ, List.getElem?_cons_zero]; rfl)
  case hsx1n | hfx1n | hrx1n => kernel_rfl
  case hQx1n => exact fun _ _ _ h => h
  case hwx1n => rfl
  case hyx1n =>
    intro W hW
    go_simp
    try with_reducible rfl
  simp only [Act.put, List.setIfInBounds_toArray, List.set_cons_succ, List.set_cons_zero]
  refine' wpAnyH_take (i := 2) ?h1x2n ?hsx2n ?hfx2n ?hrx2n ?hQx2n (Or.inl ⟨?hwx2n, ?hyx2n⟩) hS ?restx2n
  case h1x2n => (simp only [List.getElem?_toArray, List.getElem?_cons_succ, List.getElem?_cons_zero]; rfl)
  case hsx2n | hfx2n | hrx2n => kernel_rfl
  case hQx2n => exact fun _ _ _ h => h
  case hwx2n => rfl
  case hyx2n =>
    intro W hW
    go_simp
    try with_reducible rfl
  simp only [Act.put, List.setIfInBounds_toArray, List.set_cons_succ, List.set_cons_zero]
  refine' wpAnyH_take (i := 3) ?h1x3n ?hsx3n ?hfx3n ?hrx3n ?hQx3n (Or.inl ⟨?hwx3n, ?hyx3n⟩) hS ?restx3n
  case h1x3n => (simp only [List.getElem?_toArray, List.getElem?_cons_succ, List.getElem?_cons_zero]; rfl)
  case hsx3n | hfx3n | hrx3n => kernel_rfl
  case hQx3n => exact fun _ _ _ h => h
  case hwx3n => rfl
  case hyx3n =>
    intro W hW
    go_simp
    try with_reducible rfl
  simp only [Act.put, List.setIfInBounds_toArray, List.set_cons_succ, List.set_cons_zero]
  refine' wpAnyH_take (i := 4) ?h1x4n ?hsx4n ?hfx4n ?hrx4n ?hQx4n (Or.inl ⟨?hwx4n, ?hyx4n⟩) hS ?restx4n
  case h1x4n => (simp only [List.getElem?_toArray, List.getElem?_cons_succ, List.getElem?_cons_zero]; rfl)
  case hsx4n | hfx4n | hrx4n => kernel_rfl
  case hQx4n => exact fun _ _ _ h => h
  case hwx4n => rfl
  case hyx4n =>
    intro W hW
    go_simp
    try with_reducible rfl
  simp only [Act.put, List.setIfInBounds_toArray, List.set_cons_succ, List.set_cons_zero]
  refine' wpAnyH_take (i := 6) ?h1x6n ?hsx6n ?hfx6n ?hrx6n ?hQx6n (Or.inl ⟨?hwx6n, ?hyx6n⟩) hS ?restx6n
  case h1x6n => (simp only [List.getElem?_toArray, List.getElem?_cons_succ, List.getElem?_cons_zero]; rfl)
  case hsx6n | hfx6n | hrx6n => kernel_rfl
  case hQx6n => exact fun _ _ _ h => h
  case hwx6n => rfl
  case hyx6n =>
    intro W hW
    have ck := (hW.cell (p := ⟨w.heap.size, 0, none⟩) (blk_lt GP.out)).trans (cell_row GP.out 0)
    simp at ck
    go_simp
    try with_reducible rfl
  simp only [Act.put, List.setIfInBounds_toArray, List.set_cons_succ, List.set_cons_zero]
  refine wpAnyH_ready (rs := [5]) (by kernel_rfl) (by simp) ?_
  refine' (AllReadyH.cons ?hoc5n (fun K hK => ?stc5n) AllReadyH.nil)
  case hoc5n => (simp only [List.getElem?_toArray, List.getElem?_cons_succ, List.getElem?_cons_zero]; rfl)
  go_simp
  refine (sizeB DD.out).mono ?_
  rintro e Wnx5 ⟨rfl, hb⟩
  have BE := Lib.hid (BE.out.trans (hb.mono BE.out.size))
  have G0 := Lib.hid ((hb.block _ (blk_lt G0.out)).trans G0.out)
  have DD := Lib.hid (DD.out.below hb)
  go_wp2_with fail
  refine hK.out _ _ (hS.trans (hb.mono hS.size)) (fun hHeld => ?_)
  clear hK K
  try simp only [Act.put, List.setIfInBounds_toArray, List.set_cons_succ, List.set_cons_zero]
  clear hS
  have hS := hHeld
  clear hHeld
  clear hb
  refine' wpAnyH_take (i := 7) ?h1x7nx5 ?hsx7nx5 ?hfx7nx5 ?hrx7nx5 ?hQx7nx5 (Or.inl ⟨?hwx7nx5, ?hyx7nx5⟩) hS ?restx7nx5
  case h1x7nx5 => (simp only [List.getElem?_toArray, List.getElem?_cons_succ, List.getElem?_cons_zero]; rfl)
  case hsx7nx5 | hfx7nx5 | hrx7nx5 => kernel_rfl
  case hQx7nx5 => exact fun _ _ _ h => h
  case hwx7nx5 => rfl
  case hyx7nx5 =>
    intro W hW
    go_simp
    try with_reducible rfl
  simp only [Act.put, List.setIfInBounds_toArray, List.set_cons_succ, List.set_cons_zero]
  refine' wpAnyH_take (i := 8) ?h1x8nx5 ?hsx8nx5 ?hfx8nx5 ?hrx8nx5 ?hQx8nx5 (Or.inl ⟨?hwx8nx5, ?hyx8nx5⟩) hS ?restx8nx5
  case h1x8nx5 => (simp only [List.getElem?_toArray, List.getElem?_cons_succ, List.getElem?_cons_zero]; rfl)
  case hsx8nx5 | hfx8nx5 | hrx8nx5 => kernel_rfl
  case hQx8nx5 => exact fun _ _ _ h => h
  case hwx8nx5 => rfl
  case hyx8nx5 =>
    intro W hW
    go_simp
    try with_reducible rfl
  simp only [Act.put, List.setIfInBounds_toArray, List.set_cons_succ, List.set_cons_zero]
  refine' wpAnyH_take (i := 9) ?h1x9nx5 ?hsx9nx5 ?hfx9nx5 ?hrx9nx5 ?hQx9nx5 (Or.inl ⟨?hwx9nx5, ?hyx9nx5⟩) hS ?restx9nx5
  case h1x9nx5 => (simp only [List.getElem?_toArray, List.getElem?_cons_succ, List.getElem?_cons_zero]; rfl)
  case hsx9nx5 | hfx9nx5 | hrx9nx5 => kernel_rfl
  case hQx9nx5 => exact fun _ _ _ h => h
  case hwx9nx5 => rfl
  case hyx9nx5 =>
    intro W hW
    go_simp
    try with_reducible rfl
  simp only [Act.put, List.setIfInBounds_toArray, List.set_cons_succ, List.set_cons_zero]
  refine wpAnyH_done (by kernel_rfl) ?_ _
  go_wp2_with fail
  refine (NF.out _).mono ?_
  rintro e w2 ⟨gf, rb, mb, wb, rfl, fd, k1, k2, k3, k4, hb⟩
  have BE2 := BE.out.trans (hb.mono BE.out.size)
  have GB := (hb.block _ (blk_lt G0.out)).trans G0.out
  have bs := BE.out.size
  obtain ⟨Pv, hP⟩ : ∃ Pv : Array Value, Pv = #[.pointer (some ⟨gd, 0, none⟩), .pointer (some ⟨gf, 0, none⟩), .pointer x, .func (.func 28) #[] #[.pointer (some ⟨w.heap.size, 0, none⟩)]] := ⟨_, rfl⟩
  have hal : Below w2.heap.size w2 (w2.alloc (.cells Pv 33)) := (Below.refl _ _).alloc (Nat.le_refl _) _
  have FIN : (NewPP w gd ct (.pointer x) fr (.returned (.tuple #[.pointer (some ⟨w2.heap.size, 0, none⟩), .int .i64 0])) (w2.alloc (.cells Pv 33))) :=
    ⟨w2.heap.size, gf, w.heap.size, rb, mb, wb, rfl, ⟨by rw [← hP]; exact heap_alloc_new _ _, (hal.block _ (blk_lt GB)).trans GB⟩, fd.below hal, ⟨BE2.size, by omega, Nat.le_refl _, by omega, by omega, by omega⟩, BE2.trans (hal.mono BE2.size)⟩
  rw [hP] at FIN
  clear hP hal fd k1 k2 k3 k4 hb BE2 GB bs BE G0 DD NF
  go_wp2_with fail
  go_ret2
  exact FIN
end Go.Proofs.YtjdamlmoegippaaDoor.pl
