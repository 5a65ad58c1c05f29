/-
  Contract of pool.New of a disk that a call made, where the extents have room on it. Condition: the disk stands in memory.
-/
import Derived.Test.YtjdamlmoegippaaDoorExJ
import Derived.Test.YtjdamlmoegippaaDoorDkDTa
namespace Go.Proofs.YtjdamlmoegippaaDoor.ex
open Go.RowKit
/-- What a change of a field makes. -/
def TF (w : World) (g rb mb wb N : Nat) (f : Nat → Nat) (T : Nat → Acc) (r : Value) (e : Ending) (w' : World) : Prop := e = .returned r ∧ FD w' g rb mb wb N f T ∧ Mods (Ft g mb wb) w w'
theorem inv_new (N : Nat) : Inv N (fun _ => 0) (fun _ => a0) := by
  refine ⟨rfl, fun _ _ => rfl, fun _ => ⟨by decide, by decide, by show (0 : Int) ≤ N; omega⟩, fun _ => ⟨by decide, by decide⟩, ?_, ?_⟩
  · rw [cnt_zero]; rfl
  · show (0 : Int) ≤ N - _
    have : sum9 (fun _ => a0.sh) = 0 := rfl
    rw [this]; omega
/-- A new field. -/
def NewF (w : World) (N : Nat) (e : Ending) (w' : World) : Prop :=
  ∃ g rb mb wb, e = .returned (.tuple #[.pointer (some ⟨g, 0, none⟩), .int .i64 0]) ∧ FD w' g rb mb wb N (fun _ => 0) (fun _ => a0) ∧ w.heap.size ≤ g ∧ w.heap.size ≤ rb ∧ w.heap.size ≤ mb ∧ w.heap.size ≤ wb ∧ Below w.heap.size w w'
theorem newF_rows {w w1 : World} {N rb mb wb : Nat} (h2 : N ≤ 2048) (r : BR w1 rb N mb wb (fun _ => 0)) (k1 : w.heap.size ≤ rb) (k2 : w.heap.size ≤ mb) (k3 : w.heap.size ≤ wb) (hb : Below w.heap.size w w1) :
    NewF w N (.returned (.tuple #[.pointer (some ⟨w1.heap.size, 0, none⟩), .int .i64 0])) (w1.alloc (.cells (fC rb (fun _ => a0)).toArray 84)) :=
  ⟨w1.heap.size, rb, mb, wb, rfl, ⟨heap_alloc_new _ _, r.mods (S := fun _ => False) (Mods.alloc _ _) id id id, h2, inv_new N⟩, hb.size, k1, k2, k3, hb.alloc hb.size _⟩
set_option maxRecDepth 100000 in
theorem newF (N : Nat) (h1 : 1 ≤ N) (h2 : N ≤ 2048) (w : World) : Calls Tryd.prog 27 #[.int .i64 N] w (NewF w N) := by
  have H := Lib.hid (newB N h1 (by omega))
  have HF : Hid (∀ w1 rb mb wb, BR w1 rb N mb wb (fun _ => 0) → w.heap.size ≤ rb → w.heap.size ≤ mb → w.heap.size ≤ wb → Below w.heap.size w w1 → NewF w N (.returned (.tuple #[.pointer (some ⟨w1.heap.size, 0, none⟩), .int .i64 0])) (w1.alloc (.cells (fC rb (fun _ => a0)).toArray 84))) :=
    fun w1 rb mb wb r k1 k2 k3 hb => newF_rows h2 r k1 k2 k3 hb
  have e1 : ¬ (N : Int) < 1 := by omega
  have e2 : ¬ (2048 : Int) < N := by omega
  clear h1 h2
  go_enter Tryd.func27, Tryd.ntmps27
  go_wp2_with fail
  refine (H.out w).mono ?_
  rintro e w1 ⟨g, mb, wb, rfl, r, k1, k2, k3, hb⟩
  have R1 := Lib.hid r
  have B1 := Lib.hid hb
  have HM := Lib.hid (And.intro k1 (And.intro k2 k3))
  clear r hb k1 k2 k3
  go_wp2_with fail
  go_ret2
  exact HF.out _ _ _ _ R1.out HM.out.1 HM.out.2.1 HM.out.2.2 B1.out
section
variable {w w' : World} {g rb mb wb N : Nat} {f : Nat → Nat} {T : Nat → Acc}
/-- May a tenant be admitted? -/
def admC (N : Nat) (T : Nat → Acc) (t : Nat) (r : Int) : Int := if (T t).i = true then 53 else if slack N T < r then 61 else 0
def admT (N : Nat) (T : Nat → Acc) (t : Nat) (r q : Int) : Nat → Acc := if admC N T t r = 0 then updT T t ⟨true, r, q, 0⟩ else T
theorem sl0 (h : FD w g rb mb wb N f T) : 0 ≤ slack N T ∧ slack N T ≤ 2048 := ⟨h.inv.sl, by have := h.inv.slack_le; have := h.n2; omega⟩
theorem admit_no (h : FD w g rb mb wb N f T) (t r q : Int) (hn : ¬ mayL N t r q) : Calls Tryd.prog 31 #[.pointer (some ⟨g, 0, none⟩), .int .i64 t, .int .i64 r, .int .i64 q] w (TF w g rb mb wb N f T (.int .i64 1)) := by
  have H := Lib.hid h
  have HN := Lib.hid (fitF_no h t r q hn)
  clear h hn
  go_enter Tryd.func31, Tryd.ntmps31
  go_wp2_with (go_at_call 52; refine HN.out.mono ?_; rintro e w' ⟨rfl, rfl⟩)
  go_ret
  exact ⟨rfl, H.out, Mods.refl _ _⟩
set_option maxRecDepth 100000 in
set_option maxHeartbeats 1000000 in
theorem admitF (h : FD w g rb mb wb N f T) (n : Nat) (r q : Int) (hn : mayL N n r q) :
    Calls Tryd.prog 31 #[.pointer (some ⟨g, 0, none⟩), .int .i64 n, .int .i64 r, .int .i64 q] w (TF w g rb mb wb N f (admT N T n r q) (.int .i64 (admC N T n r))) := by
  have H := Lib.hid h
  have HN := Lib.hid (fitF h n r q hn)
  have L := Lib.hid hn
  have h9 : (n : Int) < 9 := by unfold mayL at hn; omega
  have hn0 : n < 9 := by omega
  have c := h.at0 n hn0
  have HS := Lib.hid (slackF h)
  have s0 := (sl0 h).1
  have s1 := (sl0 h).2
  have AT : Hid (∀ w1, FD w1 g rb mb wb N f T → ∀ k, w1.frozen? ⟨g, k, none⟩ = false) := fun w1 h k => h.fz k
  by_cases hi : (T n).i = true
  · have e1 : admC N T n r = 53 := if_pos hi
    have e2 : admT N T n r q = T := by unfold admT; rw [e1]; rfl
    rw [e1, e2]
    rw [hi] at c
    clear h hn hi e1 e2 s0 s1
    go_enter Tryd.func31, Tryd.ntmps31
    go_wp2_with (go_at_call 52; refine HN.out.mono ?_; rintro e w' ⟨rfl, rfl⟩)
    go_ret
    exact ⟨rfl, H.out, Mods.refl _ _⟩
  · have hi' : (T n).i = false := by cases hq : (T n).i <;> simp_all
    rw [hi'] at c
    by_cases hs : slack N T < r
    · have e1 : admC N T n r = 61 := by unfold admC; rw [if_neg hi, if_pos hs]
      have e2 : admT N T n r q = T := by unfold admT; rw [e1]; rfl
      rw [e1, e2]
      clear h hn hi e1 e2 hi'
      generalize slack N T = s at *
      go_enter Tryd.func31, Tryd.ntmps31
      go_wp2_with (go_at_call 52; refine HN.out.mono ?_; rintro e w' ⟨rfl, rfl⟩)
      refine HS.out.mono ?_
      rintro e w1 ⟨rfl, hb⟩
      have H1 := Lib.hid (H.out.below hb)
      have B1 := Lib.hid hb
      clear hb
      go_wp2_with fail
      go_ret
      exact ⟨rfl, H1.out, Mods.of_below B1.out⟩
    · have e1 : admC N T n r = 0 := by unfold admC; rw [if_neg hi, if_neg hs]
      have e2 : admT N T n r q = updT T n ⟨true, r, q, 0⟩ := by unfold admT; rw [e1]; rfl
      rw [e1, e2]
      have IV : Hid (Inv N f (updT T n ⟨true, r, q, 0⟩)) := by
        have ho : T n = a0 := h.inv.out n hi'
        unfold mayL at hn
        refine h.inv.set n (by omega) (by omega) _ (fun e => by cases e) ⟨hn.2.2.1, hn.2.2.2.1, hn.2.2.2.2⟩ ⟨Int.le_refl _, by show 0 ≤ q; omega⟩ ?_ ?_
        · rw [ho]; show max r 0 ≤ _ + max 0 0; omega
        · rw [ho]; show (cnt f N : Int) = cnt f N - 0 + 0; omega
      have CE : Hid (∀ w1, FD w1 g rb mb wb N f T → (∃ v, w1.cell? ⟨g, 1 + n * 4, none⟩ = some v) ∧ (∃ v, w1.cell? ⟨g, 1 + n * 4 + 1, none⟩ = some v) ∧ (∃ v, w1.cell? ⟨g, 1 + n * 4 + 2, none⟩ = some v) ∧ (∃ v, w1.cell? ⟨g, 1 + n * 4 + 3, none⟩ = some v)) :=
        fun w1 h1 => ⟨⟨_, h1.at0 n hn0⟩, ⟨_, h1.at1 n hn0⟩, ⟨_, h1.at2 n hn0⟩, ⟨_, h1.at3 n hn0⟩⟩
      clear h hn hi e1 e2 hi'
      generalize slack N T = s at *
      go_enter Tryd.func31, Tryd.ntmps31
      go_wp2_with (go_at_call 52; refine HN.out.mono ?_; rintro e w' ⟨rfl, rfl⟩)
      refine HS.out.mono ?_
      rintro e w1 ⟨rfl, hb⟩
      have H1 := Lib.hid (H.out.below hb)
      have B1 := Lib.hid hb
      have c' := H1.out.at0 n hn0
      have c1' := H1.out.at1 n hn0
      have c2' := H1.out.at2 n hn0
      have c3' := H1.out.at3 n hn0
      have f0' := H1.out.fz (1 + n * 4)
      have f1' := H1.out.fz (1 + n * 4 + 1)
      have f2' := H1.out.fz (1 + n * 4 + 2)
      have f3' := H1.out.fz (1 + n * 4 + 3)
      clear hb
      go_wp2_with fail
      go_ret
      obtain ⟨h5, h6⟩ := H1.out.setA n hn0 ⟨true, r, q, 0⟩ IV.out
      exact ⟨rfl, h5, (Mods.of_below B1.out).trans h6 (fun _ hb => .inl hb)⟩
end
end Go.Proofs.YtjdamlmoegippaaDoor.ex
namespace Go.Proofs.YtjdamlmoegippaaDoor.pl
open Go.RowKit
/-- A pool in memory: its disk, its field, its log, and where its first extent stands. -/
structure PL (w : World) (p gd gf gb : Nat) (lg : Value) (fr : Int) : Prop where
  row : w.heap[p]? = some (.cells #[.pointer (some ⟨gd, 0, none⟩), .pointer (some ⟨gf, 0, none⟩), lg, .func (.func 28) #[] #[.pointer (some ⟨gb, 0, none⟩)]] 33 (0, 0))
  box : w.heap[gb]? = some (.cells #[.int .i64 fr] 3 (0, 0))
theorem cell_row {w : World} {g : Nat} {cs : Array Value} {t : TypeId} {fr : Nat × Nat} (h : w.heap[g]? = some (.cells cs t fr)) (i : Nat) : w.cell? ⟨g, i, none⟩ = cs[i]? := by
  simp [World.cell?, h]
def NewPP (w : World) (gd ct : Nat) (lg : Value) (fr : Int) (e : Ending) (w' : World) : Prop := ∃ p gf gb rb mb wb, e = .returned (.tuple #[.pointer (some ⟨p, 0, none⟩), .int .i64 0]) ∧ PL w' p gd gf gb lg fr ∧ ex.FD w' gf rb mb wb ct (fun _ => 0) (fun _ => ex.a0) ∧
  (w.heap.size ≤ p ∧ w.heap.size ≤ gf ∧ w.heap.size ≤ gb ∧ w.heap.size ≤ rb ∧ w.heap.size ≤ mb ∧ w.heap.size ≤ wb) ∧ Below w.heap.size w w'
theorem sizeB {w : World} {g N sb hb : Nat} {wv : Value} {su : Nat → Option Nat} {ws : List (Nat × Nat)} {rg : List Value} {c p : Int} {d : Bool} {K : Nat} (h : dk.DK w g N sb hb wv su ws rg c p d K) : Calls Tryd.prog 26 #[.pointer (some ⟨g, 0, none⟩)] w fun e w' => e = .returned (.int .i64 N) ∧ Below w.heap.size w w' :=
  (dk.sizeD h).mono fun _ _ ⟨h1, h2⟩ => ⟨h1, h2 ▸ Below.refl _ _⟩
set_option maxRecDepth 100000 in
set_option maxHeartbeats 8000000 in
theorem new_ok {gd N sb hb : Nat} {wv : Value} {su : Nat → Option Nat} {ws : List (Nat × Nat)} {rg : List Value} {c p : Int} {d : Bool} {K : Nat} (w : World) (h : dk.DK w gd N sb hb wv su ws rg c p d K) (fr ct : Nat) (x : Option Addr) (h1 : 1 ≤ ct) (h2 : ct ≤ 2048) (h3 : fr + ct ≤ N) :
    Calls Tryd.prog 10 #[.pointer (some ⟨gd, 0, none⟩), .int .i64 fr, .int .i64 ct, .pointer x] w (NewPP w gd ct (.pointer x) fr) := by
  obtain ⟨W0, hW0⟩ : ∃ W0, W0 = w.alloc (.cells #[.int .i64 fr] 3) := ⟨_, rfl⟩
  have b0 : Below w.heap.size w W0 := by rw [hW0]; exact (Below.refl _ _).alloc (Nat.le_refl _) _
  have G0 : Hid (W0.heap[w.heap.size]? = some (.cells #[.int .i64 fr] 3 (0, 0))) := by show _ = _; rw [hW0]; exact heap_alloc_new w _
  have DD := Lib.hid (h.below b0)
  have BE := Lib.hid b0
  have HW0 := Lib.hid hW0
  have n2 := h.n2
  have n1 := h.n1
  have NF := Lib.hid (ex.newF ct h1 h2)
  have e1 : ((N : Int) == 0) = false := by simp; omega
  have e2 : ¬ (fr : Int) < 0 := by omega
  have hw : IntKind.i64.wrap ((N : Int) - (fr : Int)) = (N : Int) - (fr : Int) := IntWalk.i64_in _ (by omega)
  have d2 : decide ((fr : Int) < 0) = false := decide_eq_false e2
  have d3 : decide ((N : Int) - (fr : Int) < (ct : Int)) = false := decide_eq_false (by omega)
  have e3 : ¬ ((N : Int) - (fr : Int) < (ct : Int)) := by omega
  clear hW0 b0 h h1 h2 h3 n1 n2
  go_enter Tryd.func10, Tryd.ntmps10
  go_upto_region 1 with (fail)
  rw [← HW0.out]
  go_wp2_with fail
  refine (dk.sizeD DD.out).mono ?_
  rintro e w1 ⟨rfl, rfl⟩
  go_upto_region 3 with (fail)
  have GP := G0
  refine wp_region_held_drew (S := fun W => Below W0.heap.size W0 W) (by kernel_rfl) ((Below.refl _ _).drew) (fun hS => ?_)
  have hb0 : Below W0.heap.size W0 W0.drew := (Below.refl _ _).drew
  have qBE := BE.out.trans (hb0.mono BE.out.size)
  have qG0 := (hb0.block _ (blk_lt G0.out)).trans G0.out
  have qDD := DD.out.below hb0
  clear hb0 BE G0 DD
  generalize W0.drew = Wns at hS qBE qG0 qDD ⊢
  have BE := Lib.hid qBE
  have G0 := Lib.hid qG0
  have DD := Lib.hid qDD
  clear qBE qG0 qDD
  refine' wpAnyH_take (i := 0) ?h1x0n ?hsx0n ?hfx0n ?hrx0n ?hQx0n (Or.inl ⟨?hwx0n, ?hyx0n⟩) hS ?restx0n
  case h1x0n => (simp only [List.getElem?_toArray, List.getElem?_cons_zero]; rfl)
  case hsx0n | hfx0n | hrx0n => kernel_rfl
  case hQx0n => exact fun _ _ _ h => h
  case hwx0n => rfl
  case hyx0n =>
    intro W hW
    have ck := (hW.cell (p := ⟨w.heap.size, 0, none⟩) (blk_lt GP.out)).trans (cell_row GP.out 0)
    simp at ck
    go_simp
    try with_reducible rfl
  simp only [Act.put, List.setIfInBounds_toArray, List.set_cons_succ, List.set_cons_zero]
  refine' wpAnyH_take (i := 1) ?h1x1n ?hsx1n ?hfx1n ?hrx1n ?hQx1n (Or.inl ⟨?hwx1n, ?hyx1n⟩) hS ?restx1n
  case h1x1n => (simp only [List.getElem?_toArray, List.getElem?_cons_succ, List.getElem?_cons_zero]; rfl)
  case hsx1n | hfx1n | hrx1n => kernel_rfl
  case hQx1n => exact fun _ _ _ h => h
  case hwx1n => rfl
  case hyx1n =>
    intro W hW
    go_simp
    try with_reducible rfl
  simp only [Act.put, List.setIfInBounds_toArray, List.set_cons_succ, List.set_cons_zero]
  refine' wpAnyH_take (i := 2) ?h1x2n ?hsx2n ?hfx2n ?hrx2n ?hQx2n (Or.inl ⟨?hwx2n, ?hyx2n⟩) hS ?restx2n
  case h1x2n => (simp only [List.getElem?_toArray, List.getElem?_cons_succ, List.getElem?_cons_zero]; rfl)
  case hsx2n | hfx2n | hrx2n => kernel_rfl
  case hQx2n => exact fun _ _ _ h => h
  case hwx2n => rfl
  case hyx2n =>
    intro W hW
    go_simp
    try with_reducible rfl
  simp only [Act.put, List.setIfInBounds_toArray, List.set_cons_succ, List.set_cons_zero]
  refine' wpAnyH_take (i := 3) ?h1x3n ?hsx3n ?hfx3n ?hrx3n ?hQx3n (Or.inl ⟨?hwx3n, ?hyx3n⟩) hS ?restx3n
  case h1x3n => (simp only [List.getElem?_toArray, List.getElem?_cons_succ, List.getElem?_cons_zero]; rfl)
  case hsx3n | hfx3n | hrx3n => kernel_rfl
  case hQx3n => exact fun _ _ _ h => h
  case hwx3n => rfl
  case hyx3n =>
    intro W hW
    go_simp
    try with_reducible rfl
  simp only [Act.put, List.setIfInBounds_toArray, List.set_cons_succ, List.set_cons_zero]
  refine' wpAnyH_take (i := 4) ?h1x4n ?hsx4n ?hfx4n ?hrx4n ?hQx4n (Or.inl ⟨?hwx4n, ?hyx4n⟩) hS ?restx4n
  case h1x4n => (simp only [List.getElem?_toArray, List.getElem?_cons_succ, List.getElem?_cons_zero]; rfl)
  case hsx4n | hfx4n | hrx4n => kernel_rfl
  case hQx4n => exact fun _ _ _ h => h
  case hwx4n => rfl
  case hyx4n =>
    intro W hW
    go_simp
    try with_reducible rfl
  simp only [Act.put, List.setIfInBounds_toArray, List.set_cons_succ, List.set_cons_zero]
  refine' wpAnyH_take (i := 6) ?h1x6n ?hsx6n ?hfx6n ?hrx6n ?hQx6n (Or.inl ⟨?hwx6n, ?hyx6n⟩) hS ?restx6n
  case h1x6n => (simp only [List.getElem?_toArray, List.getElem?_cons_succ, List.getElem?_cons_zero]; rfl)
  case hsx6n | hfx6n | hrx6n => kernel_rfl
  case hQx6n => exact fun _ _ _ h => h
  case hwx6n => rfl
  case hyx6n =>
    intro W hW
    have ck := (hW.cell (p := ⟨w.heap.size, 0, none⟩) (blk_lt GP.out)).trans (cell_row GP.out 0)
    simp at ck
    go_simp
    try with_reducible rfl
  simp only [Act.put, List.setIfInBounds_toArray, List.set_cons_succ, List.set_cons_zero]
  refine wpAnyH_ready (rs := [5]) (by kernel_rfl) (by simp) ?_
  refine' (AllReadyH.cons ?hoc5n (fun K hK => ?stc5n) AllReadyH.nil)
  case hoc5n => (simp only [List.getElem?_toArray, List.getElem?_cons_succ, List.getElem?_cons_zero]; rfl)
  go_simp
  refine (sizeB DD.out).mono ?_
  rintro e Wnx5 ⟨rfl, hb⟩
  have BE := Lib.hid (BE.out.trans (hb.mono BE.out.size))
  have G0 := Lib.hid ((hb.block _ (blk_lt G0.out)).trans G0.out)
  have DD := Lib.hid (DD.out.below hb)
  go_wp2_with fail
  refine hK.out _ _ (hS.trans (hb.mono hS.size)) (fun hHeld => ?_)
  clear hK K
  try simp only [Act.put, List.setIfInBounds_toArray, List.set_cons_succ, List.set_cons_zero]
  clear hS
  have hS := hHeld
  clear hHeld
  clear hb
  refine' wpAnyH_take (i := 7) ?h1x7nx5 ?hsx7nx5 ?hfx7nx5 ?hrx7nx5 ?hQx7nx5 (Or.inl ⟨?hwx7nx5, ?hyx7nx5⟩) hS ?restx7nx5
  case h1x7nx5 => (simp only [List.getElem?_toArray, List.getElem?_cons_succ, List.getElem?_cons_zero]; rfl)
  case hsx7nx5 | hfx7nx5 | hrx7nx5 => kernel_rfl
  case hQx7nx5 => exact fun _ _ _ h => h
  case hwx7nx5 => rfl
  case hyx7nx5 =>
    intro W hW
    go_simp
    try with_reducible rfl
  simp only [Act.put, List.setIfInBounds_toArray, List.set_cons_succ, List.set_cons_zero]
  refine' wpAnyH_take (i := 8) ?h1x8nx5 ?hsx8nx5 ?hfx8nx5 ?hrx8nx5 ?hQx8nx5 (Or.inl ⟨?hwx8nx5, ?hyx8nx5⟩) hS ?restx8nx5
  case h1x8nx5 => (simp only [List.getElem?_toArray, List.getElem?_cons_succ, List.getElem?_cons_zero]; rfl)
  case hsx8nx5 | hfx8nx5 | hrx8nx5 => kernel_rfl
  case hQx8nx5 => exact fun _ _ _ h => h
  case hwx8nx5 => rfl
  case hyx8nx5 =>
    intro W hW
    go_simp
    try with_reducible rfl
  simp only [Act.put, List.setIfInBounds_toArray, List.set_cons_succ, List.set_cons_zero]
  refine' wpAnyH_take (i := 9) ?h1x9nx5 ?hsx9nx5 ?hfx9nx5 ?hrx9nx5 ?hQx9nx5 (Or.inl ⟨?hwx9nx5, ?hyx9nx5⟩) hS ?restx9nx5
  case h1x9nx5 => (simp only [List.getElem?_toArray, List.getElem?_cons_succ, List.getElem?_cons_zero]; rfl)
  case hsx9nx5 | hfx9nx5 | hrx9nx5 => kernel_rfl
  case hQx9nx5 => exact fun _ _ _ h => h
  case hwx9nx5 => rfl
  case hyx9nx5 =>
    intro W hW
    go_simp
    try with_reducible rfl
  simp only [Act.put, List.setIfInBounds_toArray, List.set_cons_succ, List.set_cons_zero]
  refine wpAnyH_done (by kernel_rfl) ?_ _
  go_wp2_with fail
  refine (NF.out _).mono ?_
  rintro e w2 ⟨gf, rb, mb, wb, rfl, fd, k1, k2, k3, k4, hb⟩
  have BE2 := BE.out.trans (hb.mono BE.out.size)
  have GB := (hb.block _ (blk_lt G0.out)).trans G0.out
  have bs := BE.out.size
  obtain ⟨Pv, hP⟩ : ∃ Pv : Array Value, Pv = #[.pointer (some ⟨gd, 0, none⟩), .pointer (some ⟨gf, 0, none⟩), .pointer x, .func (.func 28) #[] #[.pointer (some ⟨w.heap.size, 0, none⟩)]] := ⟨_, rfl⟩
  have hal : Below w2.heap.size w2 (w2.alloc (.cells Pv 33)) := (Below.refl _ _).alloc (Nat.le_refl _) _
  have FIN : (NewPP w gd ct (.pointer x) fr (.returned (.tuple #[.pointer (some ⟨w2.heap.size, 0, none⟩), .int .i64 0])) (w2.alloc (.cells Pv 33))) :=
    ⟨w2.heap.size, gf, w.heap.size, rb, mb, wb, rfl, ⟨by rw [← hP]; exact heap_alloc_new _ _, (hal.block _ (blk_lt GB)).trans GB⟩, fd.below hal, ⟨BE2.size, by omega, Nat.le_refl _, by omega, by omega, by omega⟩, BE2.trans (hal.mono BE2.size)⟩
  rw [hP] at FIN
  clear hP hal fd k1 k2 k3 k4 hb BE2 GB bs BE G0 DD NF
  go_wp2_with fail
  go_ret2
  exact FIN
end Go.Proofs.YtjdamlmoegippaaDoor.pl
