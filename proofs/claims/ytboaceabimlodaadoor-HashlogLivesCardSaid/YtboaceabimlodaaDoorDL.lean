/-
  The document's log in memory; contracts of its Has. Condition: it lies in memory as a list of texts.
-/
import Derived.Test.YtboaceabimlodaaDoorLF
namespace Go.Proofs.YtboaceabimlodaaDoor
open Go.RowKit
/-- The document's log at h, in blocks of U. -/
structure DLs (U : Nat → Prop) (w : World) (h : Nat) (T : List (List Int)) (v : Value) (xs : List Value) : Prop where
  head : w.heap[h]? = some (.cells #[v] 29 (0, 0))
  row : w.ownsRow 0 23 1 v T.length xs
  vS : ∀ b, v.ownBlock = some b → U b
  txt : ∀ (i : Nat) (t : List Int), T[i]? = some t → ∃ u, xs[i]? = some u ∧ TX U w u t
  own : ∀ b, U b → 2 ≤ b ∧ b < w.heap.size
  sh : U h
  byt : ∀ t ∈ T, Byt t ∧ t.length ≤ 300
def DL (U : Nat → Prop) (w : World) (h : Nat) (T : List (List Int)) : Prop := ∃ v xs, DLs U w h T v xs
section
variable {U Q : Nat → Prop} {w w' : World} {h : Nat} {T : List (List Int)} {v : Value} {xs : List Value}
theorem DLs.same (d : DLs U w h T v xs) (hb : ∀ b, U b → w'.heap[b]? = w.heap[b]?) (hs : w.heap.size ≤ w'.heap.size) : DLs U w' h T v xs where
  head := by rw [hb h d.sh]; exact d.head
  row := ownsRow_same d.row (fun b e => hb b (d.vS b e))
  vS := d.vS
  txt := fun i t hi => by
    obtain ⟨u, e1, e2⟩ := d.txt i t hi
    exact ⟨u, e1, e2.same hb⟩
  own := fun b hU => ⟨(d.own b hU).1, Nat.lt_of_lt_of_le (d.own b hU).2 hs⟩
  sh := d.sh
  byt := d.byt
theorem DL.mods (d : DL U w h T) (hm : Mods Q w w') (hQ : ∀ b, U b → ¬ Q b) : DL U w' h T := by
  obtain ⟨v, xs, d⟩ := d
  exact ⟨v, xs, d.same (fun b hb => hm.block b (d.own b hb).2 (hQ b hb)) hm.size⟩
theorem DL.below (d : DL U w h T) (hb : Below w.heap.size w w') : DL U w' h T :=
  d.mods (Q := fun _ => False) (Mods.of_below hb) (fun _ _ h => h)
theorem DL.own (d : DL U w h T) : ∀ b, U b → 2 ≤ b ∧ b < w.heap.size := by obtain ⟨v, xs, d⟩ := d; exact d.own
theorem DL.byt (d : DL U w h T) : ∀ t ∈ T, Byt t ∧ t.length ≤ 300 := by obtain ⟨v, xs, d⟩ := d; exact d.byt
/-- How it is read. -/
theorem DL.read (d : DL U w h T) : ∃ x c, w.cell? ⟨h, 0, none⟩ = some (.slice x T.length c) ∧ h < w.heap.size ∧ ∀ (i : Nat) (t : List Int), T[i]? = some t → ∃ gb u, x = some ⟨gb, 0, none⟩ ∧ gb < w.heap.size ∧ w.cell? ⟨gb, i, none⟩ = some u ∧ Sees w u t := by
  obtain ⟨v, xs, d⟩ := d
  have c0 := (cell_of_row _ _ 0 _ _ _ d.head).trans (show (#[v] : Array Value)[0]? = some v from rfl)
  obtain ⟨hl, ⟨rfl, e4⟩ | ⟨gb, cap, cur, rfl, _, hg, hn, hm, hsz, ht⟩⟩ := d.row
  · refine ⟨none, 0, by rw [c0, e4], blk_lt d.head, fun i t hi => ?_⟩
    rw [List.length_eq_zero_iff.1 e4] at hi
    simp at hi
  · refine ⟨_, _, c0, blk_lt d.head, fun i t hi => ?_⟩
    obtain ⟨u, e7, e8⟩ := d.txt i t hi
    refine ⟨gb, u, rfl, blk_lt hg, ?_, e8.1⟩
    rw [cell_of_row _ _ _ _ _ _ hg]
    have hil : i < T.length := (List.getElem?_eq_some_iff.1 hi).1
    rw [← ht, List.getElem?_take_of_lt (by omega)] at e7
    simpa using e7
end
/-- A new one. -/
theorem dl_new (w : World) (h2 : 2 ≤ w.heap.size) : DL (fun q => q = w.heap.size) (w.alloc (.cells #[.slice none 0 0] 29)) w.heap.size [] :=
  ⟨.slice none 0 0, [], heap_alloc_new w _, World.ownsRow_nil _ 0 23 1, fun b e => by simp [Value.ownBlock] at e, fun i t hi => by simp at hi, fun b e => by
    have e' : b = w.heap.size := e
    have := blk_lt (heap_alloc_new w (.cells #[.slice none 0 0] 29))
    omega, rfl, fun t ht => by simp at ht⟩
set_option maxRecDepth 100000 in
set_option maxHeartbeats 4000000 in
theorem hasD (U : Nat → Prop) (h : Nat) (T : List (List Int)) (b : List Int) (v : Value) (w : World) (d : DL U w h T) (hT : T.length ≤ 1000000) (hv : Sees w v b) :
    Calls Tryd.prog 13 #[.pointer (some ⟨h, 0, none⟩), v] w fun e w' => e = .returned (.bool (decide (b ∈ T))) ∧ Below w.heap.size w w' := by
  obtain ⟨x, c, c0, hl, hrow⟩ := d.read
  have C0 := Lib.hid c0
  have HL := Lib.hid hl
  have HROW := Lib.hid hrow
  have HV := Lib.hid hv
  have BY := Lib.hid d.byt
  obtain ⟨n, hn⟩ : ∃ n, n = T.length := ⟨_, rfl⟩
  rw [← hn] at C0 hT
  have HN := Lib.hid hn
  have hni : (n : Int) ≤ 1000000 := by omega
  clear d c0 hl hrow hv hn hT
  go_enter Tryd.func13, Tryd.ntmps13
  go_wp2_with fail
  go_loopw [5] (fun vi wr => ∃ i : Nat, i ≤ n ∧ vi = .int .i64 (i : Int) ∧ (∀ t ∈ T.take i, t ≠ b) ∧ Below w.heap.size w wr) (fun vi _ => n - (intOf vi).toNat)
  case atStart => exact ⟨0, by omega, rfl, fun t ht => by simp at ht, Below.refl _ _⟩
  case round =>
    obtain ⟨i, hi, rfl, hall, hbw⟩ := hrel
    have HALL := Lib.hid hall
    have HBW := Lib.hid hbw
    clear hall hbw
    have c0 := (HBW.out.cell (p := ⟨h, 0, none⟩) HL.out).trans C0.out
    by_cases hlt : i < n
    · have hii : (i : Int) < (n : Int) := by omega
      have hir : i < T.length := by have := HN.out; omega
      obtain ⟨gb, u, rfl, hgl, hcu, hsu⟩ := HROW.out i T[i] (List.getElem?_eq_getElem hir)
      have LGB := Lib.hid hgl
      have CU := Lib.hid hcu
      have SU := Lib.hid hsu
      have TS : Hid (T.take (i + 1) = T.take i ++ [T[i]]) := List.take_succ_eq_append_getElem hir
      have TM : Hid (T[i] ∈ T) := List.getElem_mem hir
      have TG : Hid (T[i]? = some T[i]) := List.getElem?_eq_getElem hir
      obtain ⟨x, hx⟩ : ∃ x, x = T[i] := ⟨_, rfl⟩
      rw [← hx] at SU TS TM TG
      have SQ0 := Lib.hid (str_eq SU.out.1 HV.out.1)
      clear hgl hcu hsu hx hir
      by_cases e : x = b
      · have IN : Hid (b ∈ T) := by show b ∈ T; rw [← e]; exact TM.out
        have SQ : Hid (((strOfNums x).toList == (strOfNums b).toList) = true) := by show _ = _; rw [SQ0.out]; exact decide_eq_true e
        clear e SQ0
        go_wp2_with fail
        refine wp_region_held_drew (S := fun W => Below w.heap.size w W) (by kernel_rfl) HBW.out.drew (fun hS => ?_)
        refine' wpAnyH_take (i := 0) ?h1x0y ?hsx0y ?hfx0y ?hrx0y ?hQx0y (Or.inl ⟨?hwx0y, ?hyx0y⟩) hS ?restx0y
        case h1x0y => (simp only [List.getElem?_toArray, List.getElem?_cons_zero]; rfl)
        case hsx0y => kernel_rfl
        case hfx0y => kernel_rfl
        case hrx0y => kernel_rfl
        case hQx0y => exact fun _ _ _ h => h
        case hwx0y => rfl
        case hyx0y =>
          intro W hW
          go_simp
          try with_reducible rfl
        simp only [Act.put, List.setIfInBounds_toArray, List.set_cons_succ, List.set_cons_zero]
        refine' wpAnyH_take (i := 1) ?h1x1y ?hsx1y ?hfx1y ?hrx1y ?hQx1y (Or.inl ⟨?hwx1y, ?hyx1y⟩) hS ?restx1y
        case h1x1y => (simp only [List.getElem?_toArray, List.getElem?_cons_succ, List.getElem?_cons_zero]; rfl)
        case hsx1y => kernel_rfl
        case hfx1y => kernel_rfl
        case hrx1y => kernel_rfl
        case hQx1y => exact fun _ _ _ h => h
        case hwx1y => rfl
        case hyx1y =>
          intro W hW
          go_simp
          try with_reducible rfl
        simp only [Act.put, List.setIfInBounds_toArray, List.set_cons_succ, List.set_cons_zero]
        refine' wpAnyH_take (i := 2) ?h1x2y ?hsx2y ?hfx2y ?hrx2y ?hQx2y (Or.inl ⟨?hwx2y, ?hyx2y⟩) hS ?restx2y
        case h1x2y => (simp only [List.getElem?_toArray, List.getElem?_cons_succ, List.getElem?_cons_zero]; rfl)
        case hsx2y => kernel_rfl
        case hfx2y => kernel_rfl
        case hrx2y => kernel_rfl
        case hQx2y => exact fun _ _ _ h => h
        case hwx2y => rfl
        case hyx2y =>
          intro W hW
          go_simp
          try with_reducible rfl
        simp only [Act.put, List.setIfInBounds_toArray, List.set_cons_succ, List.set_cons_zero]
        refine' wpAnyH_take (i := 3) ?h1x3y ?hsx3y ?hfx3y ?hrx3y ?hQx3y (Or.inl ⟨?hwx3y, ?hyx3y⟩) hS ?restx3y
        case h1x3y => (simp only [List.getElem?_toArray, List.getElem?_cons_succ, List.getElem?_cons_zero]; rfl)
        case hsx3y => kernel_rfl
        case hfx3y => kernel_rfl
        case hrx3y => kernel_rfl
        case hQx3y => exact fun _ _ _ h => h
        case hwx3y => rfl
        case hyx3y =>
          intro W hW
          have c0 := (hW.cell (p := ⟨h, 0, none⟩) HL.out).trans C0.out
          go_simp
          try with_reducible rfl
        simp only [Act.put, List.setIfInBounds_toArray, List.set_cons_succ, List.set_cons_zero]
        refine' wpAnyH_take (i := 4) ?h1x4y ?hsx4y ?hfx4y ?hrx4y ?hQx4y (Or.inl ⟨?hwx4y, ?hyx4y⟩) hS ?restx4y
        case h1x4y => (simp only [List.getElem?_toArray, List.getElem?_cons_succ, List.getElem?_cons_zero]; rfl)
        case hsx4y => kernel_rfl
        case hfx4y => kernel_rfl
        case hrx4y => kernel_rfl
        case hQx4y => exact fun _ _ _ h => h
        case hwx4y => rfl
        case hyx4y =>
          intro W hW
          go_simp
          try with_reducible rfl
        simp only [Act.put, List.setIfInBounds_toArray, List.set_cons_succ, List.set_cons_zero]
        refine' wpAnyH_take (i := 5) ?h1x5y ?hsx5y ?hfx5y ?hrx5y ?hQx5y (Or.inl ⟨?hwx5y, ?hyx5y⟩) hS ?restx5y
        case h1x5y => (simp only [List.getElem?_toArray, List.getElem?_cons_succ, List.getElem?_cons_zero]; rfl)
        case hsx5y => kernel_rfl
        case hfx5y => kernel_rfl
        case hrx5y => kernel_rfl
        case hQx5y => exact fun _ _ _ h => h
        case hwx5y => rfl
        case hyx5y =>
          intro W hW
          go_simp
          try with_reducible rfl
        simp only [Act.put, List.setIfInBounds_toArray, List.set_cons_succ, List.set_cons_zero]
        refine' wpAnyH_take (i := 6) ?h1x6y ?hsx6y ?hfx6y ?hrx6y ?hQx6y (Or.inl ⟨?hwx6y, ?hyx6y⟩) hS ?restx6y
        case h1x6y => (simp only [List.getElem?_toArray, List.getElem?_cons_succ, List.getElem?_cons_zero]; rfl)
        case hsx6y => kernel_rfl
        case hfx6y => kernel_rfl
        case hrx6y => kernel_rfl
        case hQx6y => exact fun _ _ _ h => h
        case hwx6y => rfl
        case hyx6y =>
          intro W hW
          have cu := (hW.cell (p := ⟨gb, i, none⟩) LGB.out).trans CU.out
          go_simp
          try with_reducible rfl
        simp only [Act.put, List.setIfInBounds_toArray, List.set_cons_succ, List.set_cons_zero]
        refine' wpAnyH_take (i := 7) ?h1x7y ?hsx7y ?hfx7y ?hrx7y ?hQx7y (Or.inl ⟨?hwx7y, ?hyx7y⟩) hS ?restx7y
        case h1x7y => (simp only [List.getElem?_toArray, List.getElem?_cons_succ, List.getElem?_cons_zero]; rfl)
        case hsx7y => kernel_rfl
        case hfx7y => kernel_rfl
        case hrx7y => kernel_rfl
        case hQx7y => exact fun _ _ _ h => h
        case hwx7y => rfl
        case hyx7y =>
          intro W hW
          have st := (SU.out.below hW).str
          go_simp
          try with_reducible rfl
        simp only [Act.put, List.setIfInBounds_toArray, List.set_cons_succ, List.set_cons_zero]
        refine' wpAnyH_take (i := 8) ?h1x8y ?hsx8y ?hfx8y ?hrx8y ?hQx8y (Or.inl ⟨?hwx8y, ?hyx8y⟩) hS ?restx8y
        case h1x8y => (simp only [List.getElem?_toArray, List.getElem?_cons_succ, List.getElem?_cons_zero]; rfl)
        case hsx8y => kernel_rfl
        case hfx8y => kernel_rfl
        case hrx8y => kernel_rfl
        case hQx8y => exact fun _ _ _ h => h
        case hwx8y => rfl
        case hyx8y =>
          intro W hW
          go_simp
          try with_reducible rfl
        simp only [Act.put, List.setIfInBounds_toArray, List.set_cons_succ, List.set_cons_zero]
        refine' wpAnyH_take (i := 9) ?h1x9y ?hsx9y ?hfx9y ?hrx9y ?hQx9y (Or.inl ⟨?hwx9y, ?hyx9y⟩) hS ?restx9y
        case h1x9y => (simp only [List.getElem?_toArray, List.getElem?_cons_succ, List.getElem?_cons_zero]; rfl)
        case hsx9y => kernel_rfl
        case hfx9y => kernel_rfl
        case hrx9y => kernel_rfl
        case hQx9y => exact fun _ _ _ h => h
        case hwx9y => rfl
        case hyx9y =>
          intro W hW
          have st := (HV.out.below hW).str
          go_simp
          try with_reducible rfl
        simp only [Act.put, List.setIfInBounds_toArray, List.set_cons_succ, List.set_cons_zero]
        refine' wpAnyH_take (i := 10) ?h1x10y ?hsx10y ?hfx10y ?hrx10y ?hQx10y (Or.inl ⟨?hwx10y, ?hyx10y⟩) hS ?restx10y
        case h1x10y => (simp only [List.getElem?_toArray, List.getElem?_cons_succ, List.getElem?_cons_zero]; rfl)
        case hsx10y => kernel_rfl
        case hfx10y => kernel_rfl
        case hrx10y => kernel_rfl
        case hQx10y => exact fun _ _ _ h => h
        case hwx10y => rfl
        case hyx10y =>
          intro W hW
          have sq := SQ.out
          go_simp
          try with_reducible rfl
        simp only [Act.put, List.setIfInBounds_toArray, List.set_cons_succ, List.set_cons_zero]
        refine wpAnyH_done (by kernel_rfl) ?_ _
        clear hS
        go_wp2_with fail
        go_ret
        exact ⟨by rw [show decide (b ∈ T) = true from decide_eq_true IN.out]; rfl, HBW.out.drew⟩
      · have NE : Hid (∀ t ∈ T.take (i + 1), t ≠ b) := fun t ht => by
          rw [TS.out, List.mem_append] at ht
          rcases ht with ht | ht
          · exact HALL.out t ht
          · simp at ht; rw [ht]; exact e
        have SQ : Hid (((strOfNums x).toList == (strOfNums b).toList) = false) := by show _ = _; rw [SQ0.out]; exact decide_eq_false e
        clear e SQ0
        go_wp2_with fail
        refine wp_region_held_drew (S := fun W => Below w.heap.size w W) (by kernel_rfl) HBW.out.drew (fun hS => ?_)
        refine' wpAnyH_take (i := 0) ?h1x0n ?hsx0n ?hfx0n ?hrx0n ?hQx0n (Or.inl ⟨?hwx0n, ?hyx0n⟩) hS ?restx0n
        case h1x0n => (simp only [List.getElem?_toArray, List.getElem?_cons_zero]; rfl)
        case hsx0n => kernel_rfl
        case hfx0n => kernel_rfl
        case hrx0n => kernel_rfl
        case hQx0n => exact fun _ _ _ h => h
        case hwx0n => rfl
        case hyx0n =>
          intro W hW
          go_simp
          try with_reducible rfl
        simp only [Act.put, List.setIfInBounds_toArray, List.set_cons_succ, List.set_cons_zero]
        refine' wpAnyH_take (i := 1) ?h1x1n ?hsx1n ?hfx1n ?hrx1n ?hQx1n (Or.inl ⟨?hwx1n, ?hyx1n⟩) hS ?restx1n
        case h1x1n => (simp only [List.getElem?_toArray, List.getElem?_cons_succ, List.getElem?_cons_zero]; rfl)
        case hsx1n => kernel_rfl
        case hfx1n => kernel_rfl
        case hrx1n => kernel_rfl
        case hQx1n => exact fun _ _ _ h => h
        case hwx1n => rfl
        case hyx1n =>
          intro W hW
          go_simp
          try with_reducible rfl
        simp only [Act.put, List.setIfInBounds_toArray, List.set_cons_succ, List.set_cons_zero]
        refine' wpAnyH_take (i := 2) ?h1x2n ?hsx2n ?hfx2n ?hrx2n ?hQx2n (Or.inl ⟨?hwx2n, ?hyx2n⟩) hS ?restx2n
        case h1x2n => (simp only [List.getElem?_toArray, List.getElem?_cons_succ, List.getElem?_cons_zero]; rfl)
        case hsx2n => kernel_rfl
        case hfx2n => kernel_rfl
        case hrx2n => kernel_rfl
        case hQx2n => exact fun _ _ _ h => h
        case hwx2n => rfl
        case hyx2n =>
          intro W hW
          go_simp
          try with_reducible rfl
        simp only [Act.put, List.setIfInBounds_toArray, List.set_cons_succ, List.set_cons_zero]
        refine' wpAnyH_take (i := 3) ?h1x3n ?hsx3n ?hfx3n ?hrx3n ?hQx3n (Or.inl ⟨?hwx3n, ?hyx3n⟩) hS ?restx3n
        case h1x3n => (simp only [List.getElem?_toArray, List.getElem?_cons_succ, List.getElem?_cons_zero]; rfl)
        case hsx3n => kernel_rfl
        case hfx3n => kernel_rfl
        case hrx3n => kernel_rfl
        case hQx3n => exact fun _ _ _ h => h
        case hwx3n => rfl
        case hyx3n =>
          intro W hW
          have c0 := (hW.cell (p := ⟨h, 0, none⟩) HL.out).trans C0.out
          go_simp
          try with_reducible rfl
        simp only [Act.put, List.setIfInBounds_toArray, List.set_cons_succ, List.set_cons_zero]
        refine' wpAnyH_take (i := 4) ?h1x4n ?hsx4n ?hfx4n ?hrx4n ?hQx4n (Or.inl ⟨?hwx4n, ?hyx4n⟩) hS ?restx4n
        case h1x4n => (simp only [List.getElem?_toArray, List.getElem?_cons_succ, List.getElem?_cons_zero]; rfl)
        case hsx4n => kernel_rfl
        case hfx4n => kernel_rfl
        case hrx4n => kernel_rfl
        case hQx4n => exact fun _ _ _ h => h
        case hwx4n => rfl
        case hyx4n =>
          intro W hW
          go_simp
          try with_reducible rfl
        simp only [Act.put, List.setIfInBounds_toArray, List.set_cons_succ, List.set_cons_zero]
        refine' wpAnyH_take (i := 5) ?h1x5n ?hsx5n ?hfx5n ?hrx5n ?hQx5n (Or.inl ⟨?hwx5n, ?hyx5n⟩) hS ?restx5n
        case h1x5n => (simp only [List.getElem?_toArray, List.getElem?_cons_succ, List.getElem?_cons_zero]; rfl)
        case hsx5n => kernel_rfl
        case hfx5n => kernel_rfl
        case hrx5n => kernel_rfl
        case hQx5n => exact fun _ _ _ h => h
        case hwx5n => rfl
        case hyx5n =>
          intro W hW
          go_simp
          try with_reducible rfl
        simp only [Act.put, List.setIfInBounds_toArray, List.set_cons_succ, List.set_cons_zero]
        refine' wpAnyH_take (i := 6) ?h1x6n ?hsx6n ?hfx6n ?hrx6n ?hQx6n (Or.inl ⟨?hwx6n, ?hyx6n⟩) hS ?restx6n
        case h1x6n => (simp only [List.getElem?_toArray, List.getElem?_cons_succ, List.getElem?_cons_zero]; rfl)
        case hsx6n => kernel_rfl
        case hfx6n => kernel_rfl
        case hrx6n => kernel_rfl
        case hQx6n => exact fun _ _ _ h => h
        case hwx6n => rfl
        case hyx6n =>
          intro W hW
          have cu := (hW.cell (p := ⟨gb, i, none⟩) LGB.out).trans CU.out
          go_simp
          try with_reducible rfl
        simp only [Act.put, List.setIfInBounds_toArray, List.set_cons_succ, List.set_cons_zero]
        refine' wpAnyH_take (i := 7) ?h1x7n ?hsx7n ?hfx7n ?hrx7n ?hQx7n (Or.inl ⟨?hwx7n, ?hyx7n⟩) hS ?restx7n
        case h1x7n => (simp only [List.getElem?_toArray, List.getElem?_cons_succ, List.getElem?_cons_zero]; rfl)
        case hsx7n => kernel_rfl
        case hfx7n => kernel_rfl
        case hrx7n => kernel_rfl
        case hQx7n => exact fun _ _ _ h => h
        case hwx7n => rfl
        case hyx7n =>
          intro W hW
          have st := (SU.out.below hW).str
          go_simp
          try with_reducible rfl
        simp only [Act.put, List.setIfInBounds_toArray, List.set_cons_succ, List.set_cons_zero]
        refine' wpAnyH_take (i := 8) ?h1x8n ?hsx8n ?hfx8n ?hrx8n ?hQx8n (Or.inl ⟨?hwx8n, ?hyx8n⟩) hS ?restx8n
        case h1x8n => (simp only [List.getElem?_toArray, List.getElem?_cons_succ, List.getElem?_cons_zero]; rfl)
        case hsx8n => kernel_rfl
        case hfx8n => kernel_rfl
        case hrx8n => kernel_rfl
        case hQx8n => exact fun _ _ _ h => h
        case hwx8n => rfl
        case hyx8n =>
          intro W hW
          go_simp
          try with_reducible rfl
        simp only [Act.put, List.setIfInBounds_toArray, List.set_cons_succ, List.set_cons_zero]
        refine' wpAnyH_take (i := 9) ?h1x9n ?hsx9n ?hfx9n ?hrx9n ?hQx9n (Or.inl ⟨?hwx9n, ?hyx9n⟩) hS ?restx9n
        case h1x9n => (simp only [List.getElem?_toArray, List.getElem?_cons_succ, List.getElem?_cons_zero]; rfl)
        case hsx9n => kernel_rfl
        case hfx9n => kernel_rfl
        case hrx9n => kernel_rfl
        case hQx9n => exact fun _ _ _ h => h
        case hwx9n => rfl
        case hyx9n =>
          intro W hW
          have st := (HV.out.below hW).str
          go_simp
          try with_reducible rfl
        simp only [Act.put, List.setIfInBounds_toArray, List.set_cons_succ, List.set_cons_zero]
        refine' wpAnyH_take (i := 10) ?h1x10n ?hsx10n ?hfx10n ?hrx10n ?hQx10n (Or.inl ⟨?hwx10n, ?hyx10n⟩) hS ?restx10n
        case h1x10n => (simp only [List.getElem?_toArray, List.getElem?_cons_succ, List.getElem?_cons_zero]; rfl)
        case hsx10n => kernel_rfl
        case hfx10n => kernel_rfl
        case hrx10n => kernel_rfl
        case hQx10n => exact fun _ _ _ h => h
        case hwx10n => rfl
        case hyx10n =>
          intro W hW
          have sq := SQ.out
          go_simp
          try with_reducible rfl
        simp only [Act.put, List.setIfInBounds_toArray, List.set_cons_succ, List.set_cons_zero]
        refine wpAnyH_done (by kernel_rfl) ?_ _
        clear hS
        go_wp2_with fail
        go_roundw
        case rel => exact ⟨i + 1, by omega, by go_num, NE.out, HBW.out.drew⟩
        case measure => simp [intOf]; omega
    · have hin : i = n := by omega
      have NI : Hid (b ∉ T) := fun hb => by
        have := HALL.out b (by rw [hin, HN.out, List.take_length]; exact hb)
        exact this rfl
      have hge : ¬ (i : Int) < (n : Int) := by omega
      clear hin
      go_wp2_with fail
      go_ret
      exact ⟨by rw [show decide (b ∈ T) = false from decide_eq_false NI.out]; rfl, HBW.out⟩
end Go.Proofs.YtboaceabimlodaaDoor
