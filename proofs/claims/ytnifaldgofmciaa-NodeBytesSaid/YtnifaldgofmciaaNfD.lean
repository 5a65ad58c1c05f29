/-
  Contract of the document's Right of a node. Condition: the node reads as one, of no more than a hundred parts.
-/
import Derived.Test.YtnifaldgofmciaaNfC
namespace Go.Proofs.Ytnifaldgofmciaa
open Go.RowKit
open oc (Byt Sees Own be nth)
theorem asD (A : Array Value) (n : NV) (w : World) (hv : ND w (.agg A) n) (hm : n.ks.length ≤ 100) (hf : ∀ p ∈ n.qs, 0 ≤ p.1 ∧ p.1 ≤ 4294967295) : Calls Try.prog 9 #[.agg A] w (AsP w n) := by
  cases hl : n.leaf with
  | true =>
    by_cases h1 : n.vs.length = n.ks.length
    · by_cases h2 : n.qs.length = 0
      · exact as_leaf A n w hv hl hm h1 h2
      · exact as_l2 A n w hv hl h1 (by omega)
    · exact as_l1 A n w hv hl h1
  | false =>
    by_cases h1 : n.qs.length = n.ks.length
    · by_cases h2 : n.vs.length = 0
      · exact as_inner A n w hv hl hm hf h1 h2
      · exact as_i2 A n w hv hl h1 (by omega)
    · exact as_i1 A n w hv hl h1
theorem sizeB (b : Bool) (w : World) : Calls Try.prog 29 #[.bool b] w fun e w' => e = .returned (.int .i64 (szB b : Int)) ∧ Below w.heap.size w w' :=
  (sizeD b w).mono fun e w' ⟨h1, h2⟩ => ⟨h1, by rw [← h2]; exact Below.refl _ _⟩
theorem size_true (w : World) : Calls Try.prog 29 #[.bool true] w fun e w' => e = .returned (.int .i64 44) ∧ Below w.heap.size w w' := sizeB true w
theorem size_false (w : World) : Calls Try.prog 29 #[.bool false] w fun e w' => e = .returned (.int .i64 36) ∧ Below w.heap.size w w' := sizeB false w
def keyD (l : List (Int × List Int)) (i : Nat) : Int := (l.getD i (0, [])).1
def bytD (l : List (Int × List Int)) (i : Nat) : List Int := (l.getD i (0, [])).2
/-- Is a part as it may be? -/
def gdD (x : DN) (i : Nat) : Bool := (decide (i = 0) || decide (keyD x.l (i - 1) < keyD x.l i)) && decide ((bytD x.l i).length = szB x.leaf)
/-- May a document's node be? -/
def rightD (x : DN) : Bool := (List.range x.l.length).all (gdD x) && (decide ((if x.leaf then 1 else 2) ≤ x.l.length) && decide (x.l.length ≤ if x.leaf then 9 else 11))
theorem rightD_no {x : DN} {i : Nat} (hi : i < x.l.length) (h : gdD x i = false) : rightD x = false := by
  unfold rightD
  have : (List.range x.l.length).all (gdD x) = false := List.all_eq_false.2 ⟨i, List.mem_range.2 hi, by rw [h]; decide⟩
  rw [this, Bool.false_and]
theorem rightD_end {x : DN} (h : ∀ i, i < x.l.length → gdD x i = true) : rightD x = (decide ((if x.leaf then 1 else 2) ≤ x.l.length) && decide (x.l.length ≤ if x.leaf then 9 else 11)) := by
  unfold rightD
  have : (List.range x.l.length).all (gdD x) = true := List.all_eq_true.2 fun i hi => h i (List.mem_range.1 hi)
  rw [this, Bool.true_and]
/-- A part in memory. -/
theorem PS.at {w : World} {x : Option Addr} {n c : Nat} {l : List (Int × List Int)} (h : PS w (.slice x n c) l) (i : Nat) (hi : i < l.length) :
    ∃ b o u, x = some ⟨b, o, none⟩ ∧ CellF w b (o + i * 2) (.int .u64 (keyD l i)) ∧ CellF w b (o + i * 2 + 1) u ∧ Sees w u (bytD l i) ∧ (0 ≤ keyD l i ∧ keyD l i ≤ 18446744073709551615) ∧ w.rangeAt b (o + i * 2) [.int .u64 (keyD l i), u] := by
  obtain ⟨rows, rfl, ⟨_, _, x', c', e, h4⟩, _, h5⟩ := h
  injection e with e1 _ _
  subst e1
  have hir : i < rows.length := by simpa using hi
  have hg : rows[i]? = some rows[i] := List.getElem?_eq_getElem hir
  obtain ⟨b, o, q1, q2, q3⟩ := h4 i _ hg
  have hk : keyD (rows.map PR.two) i = rows[i].k := by unfold keyD; simp [List.getD, hir, PR.two]
  have hb : bytD (rows.map PR.two) i = rows[i].b := by unfold bytD; simp [List.getD, hir, PR.two]
  obtain ⟨q4, q5⟩ := h5 _ (List.getElem_mem hir)
  rw [hk, hb]
  refine ⟨b, o, rows[i].u, q1, ⟨q2, ?_⟩, ⟨q2, ?_⟩, q4, q5, q3⟩
  · have := q3 0 (.int .u64 rows[i].k) rfl
    rw [Nat.add_zero] at this
    exact this
  · exact q3 1 rows[i].u rfl
theorem PS.form {w : World} {v : Value} {l : List (Int × List Int)} (h : PS w v l) : ∃ x c, v = .slice x l.length c ∧ l.length ≤ c ∧ c ≤ 9223372036854775807 := by
  obtain ⟨rows, rfl, h2, ⟨x, n, c, rfl, h3, h4⟩, _⟩ := h
  obtain ⟨x', c', e⟩ := h2.len
  injection e with e1 e2 e3
  refine ⟨x, c, by rw [List.length_map, ← e2], by rw [List.length_map, ← e2]; exact h3, h4⟩
set_option maxRecDepth 100000 in
set_option maxHeartbeats 16000000 in
theorem right_true (O : Array Value) (x : DN) (w : World) (hv : DM w (.agg O) x) (hlf : x.leaf = true) (hm : x.l.length ≤ 100) : Calls Try.prog 11 #[.agg O] w fun e w' => e = .returned (.bool (rightD x)) ∧ Below w.heap.size w w' := by
  obtain ⟨V, e, hp⟩ := hv
  injection e with e
  obtain ⟨xa, ca, rfl, _, _⟩ := hp.form
  have O0 : Hid (O[0]? = some (.bool true)) := by show _ = _; rw [e, hlf]; rfl
  have O1 : Hid (O[1]? = some (.slice xa x.l.length ca)) := by show _ = _; rw [e]; rfl
  obtain ⟨W1, hW1⟩ : ∃ W1, W1 = w.alloc (.cells O 32) := ⟨_, rfl⟩
  have b1 : Below w.heap.size w W1 := by rw [hW1]; exact (Below.refl _ _).alloc (Nat.le_refl _) _
  have G1 : Hid (W1.heap[w.heap.size]? = some (.cells O 32 (0, 0))) := by show _ = _; rw [hW1]; exact heap_alloc_new w _
  have PP := Lib.hid hp
  have NO := Lib.hid (fun i (h : i < x.l.length) (k : gdD x i = false) => rightD_no h k)
  have EN := Lib.hid (@rightD_end x)
  have GD : Hid (∀ i, gdD x i = ((decide (i = 0) || decide (keyD x.l (i - 1) < keyD x.l i)) && decide ((bytD x.l i).length = 44))) := fun i => by unfold gdD; rw [hlf]; rfl
  have EB : Hid (∀ n : Nat, (decide ((if x.leaf then 1 else 2) ≤ n) && decide (n ≤ if x.leaf then 9 else 11)) = (decide (1 ≤ n) && decide (n ≤ 9))) := fun n => by rw [hlf]; rfl
  have B1 := Lib.hid b1
  have HW1 := Lib.hid hW1
  have hL : (x.l.length : Int) ≤ 100 := by omega
  have cc := (cell_row G1.out 0).trans O0.out
  clear hp e hW1 b1 hlf
  obtain ⟨L, hLL⟩ : ∃ L, L = x.l.length := ⟨_, rfl⟩
  rw [← hLL] at O1 NO EN hm hL
  have HLL := Lib.hid hLL
  clear hLL
  go_enter Try.func11, Try.ntmps11
  go_upto_region 1 with (fail)
  rw [← HW1.out]
  go_upto_region 4 with (fail)
  clear cc
  go_wp2_with fail
  refine (show Code.wp _ _ _ _ _ from ?_)
  go_loopw [5] (fun v5 wr => ∃ i : Nat, i ≤ L ∧ v5 = .int .i64 (i : Int) ∧ (∀ j, j < i → gdD x j = true) ∧ Below W1.heap.size W1 wr) (fun v5 _ => L - (intOf v5).toNat)
  case atStart => exact ⟨0, by omega, rfl, fun j h => by omega, Below.refl _ _⟩
  case round =>
    obtain ⟨i, hi, rfl, hall, hb⟩ := hrel
    have HALL := Lib.hid hall
    have HB := Lib.hid hb
    have GR := Lib.hid ((hb.block _ (blk_lt G1.out)).trans G1.out)
    have cc1 := (cell_row GR.out 1).trans O1.out
    clear hall hb
    by_cases hlt : i < L
    · have hii : (i : Int) < (L : Int) := by omega
      have HLT := Lib.hid hlt
      have BW := Lib.hid (B1.out.trans (HB.out.mono B1.out.size))
      have PW := Lib.hid (PP.out.below BW.out)
      obtain ⟨b, o, u, rfl, ck, cu, su, kb, _⟩ := PW.out.at i (by rw [← HLL.out]; exact hlt)
      obtain ⟨ux, uc, rfl, _⟩ := su.form
      obtain ⟨key, hkey⟩ : ∃ key, key = keyD x.l i := ⟨_, rfl⟩
      obtain ⟨bl, hbl⟩ : ∃ bl, bl = (bytD x.l i).length := ⟨_, rfl⟩
      have GDI := Lib.hid (GD.out i)
      rw [← hkey] at ck GDI
      rw [← hbl] at cu GDI
      have CK := Lib.hid ck
      have CU := Lib.hid cu
      have HKEY := Lib.hid hkey
      have blm : (bl : Int) ≤ 9223372036854775807 := by rw [hbl]; omega
      clear hlt ck cu su kb hkey hbl
      go_upto_region 7 with (fail)
      clear cc1
      have NXT : Hid (gdD x i = true → ∀ j, j < i + 1 → gdD x j = true) := fun h j hj => by
        by_cases e : j < i
        · exact HALL.out j e
        · rw [show j = i by omega]; exact h
      by_cases h0 : i = 0
      · subst h0
        have CU : Hid (CellF wr b (o + 1) (.slice ux bl uc)) := by have := CU.out; rw [Nat.zero_mul, Nat.add_zero] at this; exact this
        have hpos : 0 < L := HLT.out
        by_cases hb2 : bl = 44
        · subst hb2
          have YES : Hid (gdD x 0 = true) := by show _ = _; rw [GDI.out]; rfl
          have GR0 := GR
          have CK0 := CK
          have CU0 := CU
          refine wp_region_held_drew (S := fun W => Below wr.heap.size wr W) (by kernel_rfl) ((Below.refl _ _).drew) (fun hS => ?_)
          have hb0 : Below wr.heap.size wr wr.drew := (Below.refl _ _).drew
          clear hb0 
          generalize wr.drew = Wr0ys at hS  ⊢
          refine' wpAnyH_take (i := 0) ?h1x0r0y ?hsx0r0y ?hfx0r0y ?hrx0r0y ?hQx0r0y (Or.inl ⟨?hwx0r0y, ?hyx0r0y⟩) hS ?restx0r0y
          case h1x0r0y => (simp only [List.getElem?_toArray, List.getElem?_cons_zero]; rfl)
          case hsx0r0y | hfx0r0y | hrx0r0y => kernel_rfl
          case hQx0r0y => exact fun _ _ _ h => h
          case hwx0r0y => rfl
          case hyx0r0y =>
            intro W hW
            go_simp
            try with_reducible rfl
          simp only [Act.put, List.setIfInBounds_toArray, List.set_cons_succ, List.set_cons_zero]
          refine' wpAnyH_take (i := 1) ?h1x1r0y ?hsx1r0y ?hfx1r0y ?hrx1r0y ?hQx1r0y (Or.inl ⟨?hwx1r0y, ?hyx1r0y⟩) hS ?restx1r0y
          case h1x1r0y => (simp only [List.getElem?_toArray, List.getElem?_cons_succ, List.getElem?_cons_zero]; rfl)
          case hsx1r0y | hfx1r0y | hrx1r0y => kernel_rfl
          case hQx1r0y => exact fun _ _ _ h => h
          case hwx1r0y => rfl
          case hyx1r0y =>
            intro W hW
            go_simp
            try with_reducible rfl
          simp only [Act.put, List.setIfInBounds_toArray, List.set_cons_succ, List.set_cons_zero]
          refine' wpAnyH_take (i := 2) ?h1x2r0y ?hsx2r0y ?hfx2r0y ?hrx2r0y ?hQx2r0y (Or.inl ⟨?hwx2r0y, ?hyx2r0y⟩) hS ?restx2r0y
          case h1x2r0y => (simp only [List.getElem?_toArray, List.getElem?_cons_succ, List.getElem?_cons_zero]; rfl)
          case hsx2r0y | hfx2r0y | hrx2r0y => kernel_rfl
          case hQx2r0y => exact fun _ _ _ h => h
          case hwx2r0y => rfl
          case hyx2r0y =>
            intro W hW
            go_simp
            try with_reducible rfl
          simp only [Act.put, List.setIfInBounds_toArray, List.set_cons_succ, List.set_cons_zero]
          refine' wpAnyH_take (i := 3) ?h1x3r0y ?hsx3r0y ?hfx3r0y ?hrx3r0y ?hQx3r0y (Or.inr ⟨?hwx3r0y, rfl⟩) hS ?restx3r0y
          case h1x3r0y => (simp only [List.getElem?_toArray, List.getElem?_cons_succ, List.getElem?_cons_zero]; rfl)
          case hsx3r0y | hfx3r0y | hrx3r0y => kernel_rfl
          case hQx3r0y => exact fun _ _ _ h => h
          case hwx3r0y => rfl
          simp only [Act.put, List.setIfInBounds_toArray, List.set_cons_succ, List.set_cons_zero]
          refine' wpAnyH_take (i := 4) ?h1x4r0y ?hsx4r0y ?hfx4r0y ?hrx4r0y ?hQx4r0y (Or.inr ⟨?hwx4r0y, rfl⟩) hS ?restx4r0y
          case h1x4r0y => (simp only [List.getElem?_toArray, List.getElem?_cons_succ, List.getElem?_cons_zero]; rfl)
          case hsx4r0y | hfx4r0y | hrx4r0y => kernel_rfl
          case hQx4r0y => exact fun _ _ _ h => h
          case hwx4r0y => rfl
          simp only [Act.put, List.setIfInBounds_toArray, List.set_cons_succ, List.set_cons_zero]
          refine' wpAnyH_take (i := 5) ?h1x5r0y ?hsx5r0y ?hfx5r0y ?hrx5r0y ?hQx5r0y (Or.inr ⟨?hwx5r0y, rfl⟩) hS ?restx5r0y
          case h1x5r0y => (simp only [List.getElem?_toArray, List.getElem?_cons_succ, List.getElem?_cons_zero]; rfl)
          case hsx5r0y | hfx5r0y | hrx5r0y => kernel_rfl
          case hQx5r0y => exact fun _ _ _ h => h
          case hwx5r0y => rfl
          simp only [Act.put, List.setIfInBounds_toArray, List.set_cons_succ, List.set_cons_zero]
          refine' wpAnyH_take (i := 6) ?h1x6r0y ?hsx6r0y ?hfx6r0y ?hrx6r0y ?hQx6r0y (Or.inr ⟨?hwx6r0y, rfl⟩) hS ?restx6r0y
          case h1x6r0y => (simp only [List.getElem?_toArray, List.getElem?_cons_succ, List.getElem?_cons_zero]; rfl)
          case hsx6r0y | hfx6r0y | hrx6r0y => kernel_rfl
          case hQx6r0y => exact fun _ _ _ h => h
          case hwx6r0y => rfl
          simp only [Act.put, List.setIfInBounds_toArray, List.set_cons_succ, List.set_cons_zero]
          refine' wpAnyH_take (i := 7) ?h1x7r0y ?hsx7r0y ?hfx7r0y ?hrx7r0y ?hQx7r0y (Or.inr ⟨?hwx7r0y, rfl⟩) hS ?restx7r0y
          case h1x7r0y => (simp only [List.getElem?_toArray, List.getElem?_cons_succ, List.getElem?_cons_zero]; rfl)
          case hsx7r0y | hfx7r0y | hrx7r0y => kernel_rfl
          case hQx7r0y => exact fun _ _ _ h => h
          case hwx7r0y => rfl
          simp only [Act.put, List.setIfInBounds_toArray, List.set_cons_succ, List.set_cons_zero]
          refine' wpAnyH_take (i := 8) ?h1x8r0y ?hsx8r0y ?hfx8r0y ?hrx8r0y ?hQx8r0y (Or.inr ⟨?hwx8r0y, rfl⟩) hS ?restx8r0y
          case h1x8r0y => (simp only [List.getElem?_toArray, List.getElem?_cons_succ, List.getElem?_cons_zero]; rfl)
          case hsx8r0y | hfx8r0y | hrx8r0y => kernel_rfl
          case hQx8r0y => exact fun _ _ _ h => h
          case hwx8r0y => rfl
          simp only [Act.put, List.setIfInBounds_toArray, List.set_cons_succ, List.set_cons_zero]
          refine' wpAnyH_take (i := 9) ?h1x9r0y ?hsx9r0y ?hfx9r0y ?hrx9r0y ?hQx9r0y (Or.inr ⟨?hwx9r0y, rfl⟩) hS ?restx9r0y
          case h1x9r0y => (simp only [List.getElem?_toArray, List.getElem?_cons_succ, List.getElem?_cons_zero]; rfl)
          case hsx9r0y | hfx9r0y | hrx9r0y => kernel_rfl
          case hQx9r0y => exact fun _ _ _ h => h
          case hwx9r0y => rfl
          simp only [Act.put, List.setIfInBounds_toArray, List.set_cons_succ, List.set_cons_zero]
          refine' wpAnyH_take (i := 10) ?h1x10r0y ?hsx10r0y ?hfx10r0y ?hrx10r0y ?hQx10r0y (Or.inr ⟨?hwx10r0y, rfl⟩) hS ?restx10r0y
          case h1x10r0y => (simp only [List.getElem?_toArray, List.getElem?_cons_succ, List.getElem?_cons_zero]; rfl)
          case hsx10r0y | hfx10r0y | hrx10r0y => kernel_rfl
          case hQx10r0y => exact fun _ _ _ h => h
          case hwx10r0y => rfl
          simp only [Act.put, List.setIfInBounds_toArray, List.set_cons_succ, List.set_cons_zero]
          refine' wpAnyH_take (i := 11) ?h1x11r0y ?hsx11r0y ?hfx11r0y ?hrx11r0y ?hQx11r0y (Or.inr ⟨?hwx11r0y, rfl⟩) hS ?restx11r0y
          case h1x11r0y => (simp only [List.getElem?_toArray, List.getElem?_cons_succ, List.getElem?_cons_zero]; rfl)
          case hsx11r0y | hfx11r0y | hrx11r0y => kernel_rfl
          case hQx11r0y => exact fun _ _ _ h => h
          case hwx11r0y => rfl
          simp only [Act.put, List.setIfInBounds_toArray, List.set_cons_succ, List.set_cons_zero]
          refine' wpAnyH_take (i := 12) ?h1x12r0y ?hsx12r0y ?hfx12r0y ?hrx12r0y ?hQx12r0y (Or.inr ⟨?hwx12r0y, rfl⟩) hS ?restx12r0y
          case h1x12r0y => (simp only [List.getElem?_toArray, List.getElem?_cons_succ, List.getElem?_cons_zero]; rfl)
          case hsx12r0y | hfx12r0y | hrx12r0y => kernel_rfl
          case hQx12r0y => exact fun _ _ _ h => h
          case hwx12r0y => rfl
          simp only [Act.put, List.setIfInBounds_toArray, List.set_cons_succ, List.set_cons_zero]
          refine' wpAnyH_take (i := 13) ?h1x13r0y ?hsx13r0y ?hfx13r0y ?hrx13r0y ?hQx13r0y (Or.inr ⟨?hwx13r0y, rfl⟩) hS ?restx13r0y
          case h1x13r0y => (simp only [List.getElem?_toArray, List.getElem?_cons_succ, List.getElem?_cons_zero]; rfl)
          case hsx13r0y | hfx13r0y | hrx13r0y => kernel_rfl
          case hQx13r0y => exact fun _ _ _ h => h
          case hwx13r0y => rfl
          simp only [Act.put, List.setIfInBounds_toArray, List.set_cons_succ, List.set_cons_zero]
          refine' wpAnyH_take (i := 14) ?h1x14r0y ?hsx14r0y ?hfx14r0y ?hrx14r0y ?hQx14r0y (Or.inr ⟨?hwx14r0y, rfl⟩) hS ?restx14r0y
          case h1x14r0y => (simp only [List.getElem?_toArray, List.getElem?_cons_succ, List.getElem?_cons_zero]; rfl)
          case hsx14r0y | hfx14r0y | hrx14r0y => kernel_rfl
          case hQx14r0y => exact fun _ _ _ h => h
          case hwx14r0y => rfl
          simp only [Act.put, List.setIfInBounds_toArray, List.set_cons_succ, List.set_cons_zero]
          refine' wpAnyH_take (i := 15) ?h1x15r0y ?hsx15r0y ?hfx15r0y ?hrx15r0y ?hQx15r0y (Or.inr ⟨?hwx15r0y, rfl⟩) hS ?restx15r0y
          case h1x15r0y => (simp only [List.getElem?_toArray, List.getElem?_cons_succ, List.getElem?_cons_zero]; rfl)
          case hsx15r0y | hfx15r0y | hrx15r0y => kernel_rfl
          case hQx15r0y => exact fun _ _ _ h => h
          case hwx15r0y => rfl
          simp only [Act.put, List.setIfInBounds_toArray, List.set_cons_succ, List.set_cons_zero]
          refine' wpAnyH_take (i := 16) ?h1x16r0y ?hsx16r0y ?hfx16r0y ?hrx16r0y ?hQx16r0y (Or.inr ⟨?hwx16r0y, rfl⟩) hS ?restx16r0y
          case h1x16r0y => (simp only [List.getElem?_toArray, List.getElem?_cons_succ, List.getElem?_cons_zero]; rfl)
          case hsx16r0y | hfx16r0y | hrx16r0y => kernel_rfl
          case hQx16r0y => exact fun _ _ _ h => h
          case hwx16r0y => rfl
          simp only [Act.put, List.setIfInBounds_toArray, List.set_cons_succ, List.set_cons_zero]
          refine' wpAnyH_take (i := 17) ?h1x17r0y ?hsx17r0y ?hfx17r0y ?hrx17r0y ?hQx17r0y (Or.inl ⟨?hwx17r0y, ?hyx17r0y⟩) hS ?restx17r0y
          case h1x17r0y => (simp only [List.getElem?_toArray, List.getElem?_cons_succ, List.getElem?_cons_zero]; rfl)
          case hsx17r0y | hfx17r0y | hrx17r0y => kernel_rfl
          case hQx17r0y => exact fun _ _ _ h => h
          case hwx17r0y => rfl
          case hyx17r0y =>
            intro W hW
            go_simp
            try with_reducible rfl
          simp only [Act.put, List.setIfInBounds_toArray, List.set_cons_succ, List.set_cons_zero]
          refine' wpAnyH_take (i := 18) ?h1x18r0y ?hsx18r0y ?hfx18r0y ?hrx18r0y ?hQx18r0y (Or.inl ⟨?hwx18r0y, ?hyx18r0y⟩) hS ?restx18r0y
          case h1x18r0y => (simp only [List.getElem?_toArray, List.getElem?_cons_succ, List.getElem?_cons_zero]; rfl)
          case hsx18r0y | hfx18r0y | hrx18r0y => kernel_rfl
          case hQx18r0y => exact fun _ _ _ h => h
          case hwx18r0y => rfl
          case hyx18r0y =>
            intro W hW
            go_simp
            try with_reducible rfl
          simp only [Act.put, List.setIfInBounds_toArray, List.set_cons_succ, List.set_cons_zero]
          refine' wpAnyH_take (i := 19) ?h1x19r0y ?hsx19r0y ?hfx19r0y ?hrx19r0y ?hQx19r0y (Or.inl ⟨?hwx19r0y, ?hyx19r0y⟩) hS ?restx19r0y
          case h1x19r0y => (simp only [List.getElem?_toArray, List.getElem?_cons_succ, List.getElem?_cons_zero]; rfl)
          case hsx19r0y | hfx19r0y | hrx19r0y => kernel_rfl
          case hQx19r0y => exact fun _ _ _ h => h
          case hwx19r0y => rfl
          case hyx19r0y =>
            intro W hW
            go_simp
            try with_reducible rfl
          simp only [Act.put, List.setIfInBounds_toArray, List.set_cons_succ, List.set_cons_zero]
          refine' wpAnyH_take (i := 21) ?h1x21r0y ?hsx21r0y ?hfx21r0y ?hrx21r0y ?hQx21r0y (Or.inl ⟨?hwx21r0y, ?hyx21r0y⟩) hS ?restx21r0y
          case h1x21r0y => (simp only [List.getElem?_toArray, List.getElem?_cons_succ, List.getElem?_cons_zero]; rfl)
          case hsx21r0y | hfx21r0y | hrx21r0y => kernel_rfl
          case hQx21r0y => exact fun _ _ _ h => h
          case hwx21r0y => rfl
          case hyx21r0y =>
            intro W hW
            go_simp
            try with_reducible rfl
          simp only [Act.put, List.setIfInBounds_toArray, List.set_cons_succ, List.set_cons_zero]
          refine' wpAnyH_take (i := 26) ?h1x26r0y ?hsx26r0y ?hfx26r0y ?hrx26r0y ?hQx26r0y (Or.inl ⟨?hwx26r0y, ?hyx26r0y⟩) hS ?restx26r0y
          case h1x26r0y => (simp only [List.getElem?_toArray, List.getElem?_cons_succ, List.getElem?_cons_zero]; rfl)
          case hsx26r0y | hfx26r0y | hrx26r0y => kernel_rfl
          case hQx26r0y => exact fun _ _ _ h => h
          case hwx26r0y => rfl
          case hyx26r0y =>
            intro W hW
            go_simp
            try with_reducible rfl
          simp only [Act.put, List.setIfInBounds_toArray, List.set_cons_succ, List.set_cons_zero]
          refine' wpAnyH_take (i := 20) ?h1x20r0y ?hsx20r0y ?hfx20r0y ?hrx20r0y ?hQx20r0y (Or.inl ⟨?hwx20r0y, ?hyx20r0y⟩) hS ?restx20r0y
          case h1x20r0y => (simp only [List.getElem?_toArray, List.getElem?_cons_succ, List.getElem?_cons_zero]; rfl)
          case hsx20r0y | hfx20r0y | hrx20r0y => kernel_rfl
          case hQx20r0y => exact fun _ _ _ h => h
          case hwx20r0y => rfl
          case hyx20r0y =>
            intro W hW
            have cx := (hW.cell (p := ⟨w.heap.size, 1, none⟩) (blk_lt GR0.out)).trans ((cell_row GR0.out 1).trans O1.out)
            go_simp
            try with_reducible rfl
          simp only [Act.put, List.setIfInBounds_toArray, List.set_cons_succ, List.set_cons_zero]
          refine' wpAnyH_take (i := 27) ?h1x27r0y ?hsx27r0y ?hfx27r0y ?hrx27r0y ?hQx27r0y (Or.inl ⟨?hwx27r0y, ?hyx27r0y⟩) hS ?restx27r0y
          case h1x27r0y => (simp only [List.getElem?_toArray, List.getElem?_cons_succ, List.getElem?_cons_zero]; rfl)
          case hsx27r0y | hfx27r0y | hrx27r0y => kernel_rfl
          case hQx27r0y => exact fun _ _ _ h => h
          case hwx27r0y => rfl
          case hyx27r0y =>
            intro W hW
            have cx := (hW.cell (p := ⟨w.heap.size, 0, none⟩) (blk_lt GR0.out)).trans ((cell_row GR0.out 0).trans O0.out)
            go_simp
            try with_reducible rfl
          simp only [Act.put, List.setIfInBounds_toArray, List.set_cons_succ, List.set_cons_zero]
          refine' wpAnyH_take (i := 22) ?h1x22r0y ?hsx22r0y ?hfx22r0y ?hrx22r0y ?hQx22r0y (Or.inl ⟨?hwx22r0y, ?hyx22r0y⟩) hS ?restx22r0y
          case h1x22r0y => (simp only [List.getElem?_toArray, List.getElem?_cons_succ, List.getElem?_cons_zero]; rfl)
          case hsx22r0y | hfx22r0y | hrx22r0y => kernel_rfl
          case hQx22r0y => exact fun _ _ _ h => h
          case hwx22r0y => rfl
          case hyx22r0y =>
            intro W hW
            go_simp
            try with_reducible rfl
          simp only [Act.put, List.setIfInBounds_toArray, List.set_cons_succ, List.set_cons_zero]
          refine' wpAnyH_take (i := 23) ?h1x23r0y ?hsx23r0y ?hfx23r0y ?hrx23r0y ?hQx23r0y (Or.inl ⟨?hwx23r0y, ?hyx23r0y⟩) hS ?restx23r0y
          case h1x23r0y => (simp only [List.getElem?_toArray, List.getElem?_cons_succ, List.getElem?_cons_zero]; rfl)
          case hsx23r0y | hfx23r0y | hrx23r0y => kernel_rfl
          case hQx23r0y => exact fun _ _ _ h => h
          case hwx23r0y => rfl
          case hyx23r0y =>
            intro W hW
            go_simp
            try with_reducible rfl
          simp only [Act.put, List.setIfInBounds_toArray, List.set_cons_succ, List.set_cons_zero]
          refine' wpAnyH_take (i := 24) ?h1x24r0y ?hsx24r0y ?hfx24r0y ?hrx24r0y ?hQx24r0y (Or.inl ⟨?hwx24r0y, ?hyx24r0y⟩) hS ?restx24r0y
          case h1x24r0y => (simp only [List.getElem?_toArray, List.getElem?_cons_succ, List.getElem?_cons_zero]; rfl)
          case hsx24r0y | hfx24r0y | hrx24r0y => kernel_rfl
          case hQx24r0y => exact fun _ _ _ h => h
          case hwx24r0y => rfl
          case hyx24r0y =>
            intro W hW
            have cx := (CU0.out.below hW).2
            go_simp
            try with_reducible rfl
          simp only [Act.put, List.setIfInBounds_toArray, List.set_cons_succ, List.set_cons_zero]
          refine' wpAnyH_take (i := 25) ?h1x25r0y ?hsx25r0y ?hfx25r0y ?hrx25r0y ?hQx25r0y (Or.inl ⟨?hwx25r0y, ?hyx25r0y⟩) hS ?restx25r0y
          case h1x25r0y => (simp only [List.getElem?_toArray, List.getElem?_cons_succ, List.getElem?_cons_zero]; rfl)
          case hsx25r0y | hfx25r0y | hrx25r0y => kernel_rfl
          case hQx25r0y => exact fun _ _ _ h => h
          case hwx25r0y => rfl
          case hyx25r0y =>
            intro W hW
            go_simp
            try with_reducible rfl
          simp only [Act.put, List.setIfInBounds_toArray, List.set_cons_succ, List.set_cons_zero]
          refine wpAnyH_ready (rs := [28]) (by kernel_rfl) (by simp) ?_
          refine' (AllReadyH.cons ?hoc28r0y (fun K hK => ?stc28r0y) AllReadyH.nil)
          case hoc28r0y => (simp only [List.getElem?_toArray, List.getElem?_cons_succ, List.getElem?_cons_zero]; rfl)
          go_simp
          refine (size_true Wr0ys).mono ?_
          rintro e Wr0yx28 ⟨rfl, hb⟩
          go_wp2_with fail
          refine hK.out _ _ (hS.trans (hb.mono hS.size)) (fun hHeld => ?_)
          clear hK K
          try simp only [Act.put, List.setIfInBounds_toArray, List.set_cons_succ, List.set_cons_zero]
          clear hS
          have hS := hHeld
          clear hHeld
          clear hb
          refine' wpAnyH_take (i := 29) ?h1x29r0yx28 ?hsx29r0yx28 ?hfx29r0yx28 ?hrx29r0yx28 ?hQx29r0yx28 (Or.inl ⟨?hwx29r0yx28, ?hyx29r0yx28⟩) hS ?restx29r0yx28
          case h1x29r0yx28 => (simp only [List.getElem?_toArray, List.getElem?_cons_succ, List.getElem?_cons_zero]; rfl)
          case hsx29r0yx28 | hfx29r0yx28 | hrx29r0yx28 => kernel_rfl
          case hQx29r0yx28 => exact fun _ _ _ h => h
          case hwx29r0yx28 => rfl
          case hyx29r0yx28 =>
            intro W hW
            go_simp
            try with_reducible rfl
          simp only [Act.put, List.setIfInBounds_toArray, List.set_cons_succ, List.set_cons_zero]
          refine' wpAnyH_take (i := 30) ?h1x30r0yx28 ?hsx30r0yx28 ?hfx30r0yx28 ?hrx30r0yx28 ?hQx30r0yx28 (Or.inl ⟨?hwx30r0yx28, ?hyx30r0yx28⟩) hS ?restx30r0yx28
          case h1x30r0yx28 => (simp only [List.getElem?_toArray, List.getElem?_cons_succ, List.getElem?_cons_zero]; rfl)
          case hsx30r0yx28 | hfx30r0yx28 | hrx30r0yx28 => kernel_rfl
          case hQx30r0yx28 => exact fun _ _ _ h => h
          case hwx30r0yx28 => rfl
          case hyx30r0yx28 =>
            intro W hW
            go_simp
            try with_reducible rfl
          simp only [Act.put, List.setIfInBounds_toArray, List.set_cons_succ, List.set_cons_zero]
          refine wpAnyH_done (by kernel_rfl) ?_ _
          have BE := Lib.hid (HB.out.trans (hS.mono HB.out.size))
          clear hS
          go_wp2_with fail
          go_roundw
          case rel => exact ⟨1, HLT.out, rfl, NXT.out YES.out, BE.out⟩
          case measure =>
            have := HLT.out
            show L - (1 : Int).toNat < L - (0 : Int).toNat
            omega
        · have hne : ((bl : Int) != 44) = true := by simp; omega
          have BAD : Hid (gdD x 0 = false) := by show _ = _; rw [GDI.out]; simp [hb2]
          clear hb2
          have GR0 := GR
          have CK0 := CK
          have CU0 := CU
          refine wp_region_held_drew (S := fun W => Below wr.heap.size wr W) (by kernel_rfl) ((Below.refl _ _).drew) (fun hS => ?_)
          have hb0 : Below wr.heap.size wr wr.drew := (Below.refl _ _).drew
          clear hb0 
          generalize wr.drew = Wr0ns at hS  ⊢
          refine' wpAnyH_take (i := 0) ?h1x0r0n ?hsx0r0n ?hfx0r0n ?hrx0r0n ?hQx0r0n (Or.inl ⟨?hwx0r0n, ?hyx0r0n⟩) hS ?restx0r0n
          case h1x0r0n => (simp only [List.getElem?_toArray, List.getElem?_cons_zero]; rfl)
          case hsx0r0n | hfx0r0n | hrx0r0n => kernel_rfl
          case hQx0r0n => exact fun _ _ _ h => h
          case hwx0r0n => rfl
          case hyx0r0n =>
            intro W hW
            go_simp
            try with_reducible rfl
          simp only [Act.put, List.setIfInBounds_toArray, List.set_cons_succ, List.set_cons_zero]
          refine' wpAnyH_take (i := 1) ?h1x1r0n ?hsx1r0n ?hfx1r0n ?hrx1r0n ?hQx1r0n (Or.inl ⟨?hwx1r0n, ?hyx1r0n⟩) hS ?restx1r0n
          case h1x1r0n => (simp only [List.getElem?_toArray, List.getElem?_cons_succ, List.getElem?_cons_zero]; rfl)
          case hsx1r0n | hfx1r0n | hrx1r0n => kernel_rfl
          case hQx1r0n => exact fun _ _ _ h => h
          case hwx1r0n => rfl
          case hyx1r0n =>
            intro W hW
            go_simp
            try with_reducible rfl
          simp only [Act.put, List.setIfInBounds_toArray, List.set_cons_succ, List.set_cons_zero]
          refine' wpAnyH_take (i := 2) ?h1x2r0n ?hsx2r0n ?hfx2r0n ?hrx2r0n ?hQx2r0n (Or.inl ⟨?hwx2r0n, ?hyx2r0n⟩) hS ?restx2r0n
          case h1x2r0n => (simp only [List.getElem?_toArray, List.getElem?_cons_succ, List.getElem?_cons_zero]; rfl)
          case hsx2r0n | hfx2r0n | hrx2r0n => kernel_rfl
          case hQx2r0n => exact fun _ _ _ h => h
          case hwx2r0n => rfl
          case hyx2r0n =>
            intro W hW
            go_simp
            try with_reducible rfl
          simp only [Act.put, List.setIfInBounds_toArray, List.set_cons_succ, List.set_cons_zero]
          refine' wpAnyH_take (i := 3) ?h1x3r0n ?hsx3r0n ?hfx3r0n ?hrx3r0n ?hQx3r0n (Or.inr ⟨?hwx3r0n, rfl⟩) hS ?restx3r0n
          case h1x3r0n => (simp only [List.getElem?_toArray, List.getElem?_cons_succ, List.getElem?_cons_zero]; rfl)
          case hsx3r0n | hfx3r0n | hrx3r0n => kernel_rfl
          case hQx3r0n => exact fun _ _ _ h => h
          case hwx3r0n => rfl
          simp only [Act.put, List.setIfInBounds_toArray, List.set_cons_succ, List.set_cons_zero]
          refine' wpAnyH_take (i := 4) ?h1x4r0n ?hsx4r0n ?hfx4r0n ?hrx4r0n ?hQx4r0n (Or.inr ⟨?hwx4r0n, rfl⟩) hS ?restx4r0n
          case h1x4r0n => (simp only [List.getElem?_toArray, List.getElem?_cons_succ, List.getElem?_cons_zero]; rfl)
          case hsx4r0n | hfx4r0n | hrx4r0n => kernel_rfl
          case hQx4r0n => exact fun _ _ _ h => h
          case hwx4r0n => rfl
          simp only [Act.put, List.setIfInBounds_toArray, List.set_cons_succ, List.set_cons_zero]
          refine' wpAnyH_take (i := 5) ?h1x5r0n ?hsx5r0n ?hfx5r0n ?hrx5r0n ?hQx5r0n (Or.inr ⟨?hwx5r0n, rfl⟩) hS ?restx5r0n
          case h1x5r0n => (simp only [List.getElem?_toArray, List.getElem?_cons_succ, List.getElem?_cons_zero]; rfl)
          case hsx5r0n | hfx5r0n | hrx5r0n => kernel_rfl
          case hQx5r0n => exact fun _ _ _ h => h
          case hwx5r0n => rfl
          simp only [Act.put, List.setIfInBounds_toArray, List.set_cons_succ, List.set_cons_zero]
          refine' wpAnyH_take (i := 6) ?h1x6r0n ?hsx6r0n ?hfx6r0n ?hrx6r0n ?hQx6r0n (Or.inr ⟨?hwx6r0n, rfl⟩) hS ?restx6r0n
          case h1x6r0n => (simp only [List.getElem?_toArray, List.getElem?_cons_succ, List.getElem?_cons_zero]; rfl)
          case hsx6r0n | hfx6r0n | hrx6r0n => kernel_rfl
          case hQx6r0n => exact fun _ _ _ h => h
          case hwx6r0n => rfl
          simp only [Act.put, List.setIfInBounds_toArray, List.set_cons_succ, List.set_cons_zero]
          refine' wpAnyH_take (i := 7) ?h1x7r0n ?hsx7r0n ?hfx7r0n ?hrx7r0n ?hQx7r0n (Or.inr ⟨?hwx7r0n, rfl⟩) hS ?restx7r0n
          case h1x7r0n => (simp only [List.getElem?_toArray, List.getElem?_cons_succ, List.getElem?_cons_zero]; rfl)
          case hsx7r0n | hfx7r0n | hrx7r0n => kernel_rfl
          case hQx7r0n => exact fun _ _ _ h => h
          case hwx7r0n => rfl
          simp only [Act.put, List.setIfInBounds_toArray, List.set_cons_succ, List.set_cons_zero]
          refine' wpAnyH_take (i := 8) ?h1x8r0n ?hsx8r0n ?hfx8r0n ?hrx8r0n ?hQx8r0n (Or.inr ⟨?hwx8r0n, rfl⟩) hS ?restx8r0n
          case h1x8r0n => (simp only [List.getElem?_toArray, List.getElem?_cons_succ, List.getElem?_cons_zero]; rfl)
          case hsx8r0n | hfx8r0n | hrx8r0n => kernel_rfl
          case hQx8r0n => exact fun _ _ _ h => h
          case hwx8r0n => rfl
          simp only [Act.put, List.setIfInBounds_toArray, List.set_cons_succ, List.set_cons_zero]
          refine' wpAnyH_take (i := 9) ?h1x9r0n ?hsx9r0n ?hfx9r0n ?hrx9r0n ?hQx9r0n (Or.inr ⟨?hwx9r0n, rfl⟩) hS ?restx9r0n
          case h1x9r0n => (simp only [List.getElem?_toArray, List.getElem?_cons_succ, List.getElem?_cons_zero]; rfl)
          case hsx9r0n | hfx9r0n | hrx9r0n => kernel_rfl
          case hQx9r0n => exact fun _ _ _ h => h
          case hwx9r0n => rfl
          simp only [Act.put, List.setIfInBounds_toArray, List.set_cons_succ, List.set_cons_zero]
          refine' wpAnyH_take (i := 10) ?h1x10r0n ?hsx10r0n ?hfx10r0n ?hrx10r0n ?hQx10r0n (Or.inr ⟨?hwx10r0n, rfl⟩) hS ?restx10r0n
          case h1x10r0n => (simp only [List.getElem?_toArray, List.getElem?_cons_succ, List.getElem?_cons_zero]; rfl)
          case hsx10r0n | hfx10r0n | hrx10r0n => kernel_rfl
          case hQx10r0n => exact fun _ _ _ h => h
          case hwx10r0n => rfl
          simp only [Act.put, List.setIfInBounds_toArray, List.set_cons_succ, List.set_cons_zero]
          refine' wpAnyH_take (i := 11) ?h1x11r0n ?hsx11r0n ?hfx11r0n ?hrx11r0n ?hQx11r0n (Or.inr ⟨?hwx11r0n, rfl⟩) hS ?restx11r0n
          case h1x11r0n => (simp only [List.getElem?_toArray, List.getElem?_cons_succ, List.getElem?_cons_zero]; rfl)
          case hsx11r0n | hfx11r0n | hrx11r0n => kernel_rfl
          case hQx11r0n => exact fun _ _ _ h => h
          case hwx11r0n => rfl
          simp only [Act.put, List.setIfInBounds_toArray, List.set_cons_succ, List.set_cons_zero]
          refine' wpAnyH_take (i := 12) ?h1x12r0n ?hsx12r0n ?hfx12r0n ?hrx12r0n ?hQx12r0n (Or.inr ⟨?hwx12r0n, rfl⟩) hS ?restx12r0n
          case h1x12r0n => (simp only [List.getElem?_toArray, List.getElem?_cons_succ, List.getElem?_cons_zero]; rfl)
          case hsx12r0n | hfx12r0n | hrx12r0n => kernel_rfl
          case hQx12r0n => exact fun _ _ _ h => h
          case hwx12r0n => rfl
          simp only [Act.put, List.setIfInBounds_toArray, List.set_cons_succ, List.set_cons_zero]
          refine' wpAnyH_take (i := 13) ?h1x13r0n ?hsx13r0n ?hfx13r0n ?hrx13r0n ?hQx13r0n (Or.inr ⟨?hwx13r0n, rfl⟩) hS ?restx13r0n
          case h1x13r0n => (simp only [List.getElem?_toArray, List.getElem?_cons_succ, List.getElem?_cons_zero]; rfl)
          case hsx13r0n | hfx13r0n | hrx13r0n => kernel_rfl
          case hQx13r0n => exact fun _ _ _ h => h
          case hwx13r0n => rfl
          simp only [Act.put, List.setIfInBounds_toArray, List.set_cons_succ, List.set_cons_zero]
          refine' wpAnyH_take (i := 14) ?h1x14r0n ?hsx14r0n ?hfx14r0n ?hrx14r0n ?hQx14r0n (Or.inr ⟨?hwx14r0n, rfl⟩) hS ?restx14r0n
          case h1x14r0n => (simp only [List.getElem?_toArray, List.getElem?_cons_succ, List.getElem?_cons_zero]; rfl)
          case hsx14r0n | hfx14r0n | hrx14r0n => kernel_rfl
          case hQx14r0n => exact fun _ _ _ h => h
          case hwx14r0n => rfl
          simp only [Act.put, List.setIfInBounds_toArray, List.set_cons_succ, List.set_cons_zero]
          refine' wpAnyH_take (i := 15) ?h1x15r0n ?hsx15r0n ?hfx15r0n ?hrx15r0n ?hQx15r0n (Or.inr ⟨?hwx15r0n, rfl⟩) hS ?restx15r0n
          case h1x15r0n => (simp only [List.getElem?_toArray, List.getElem?_cons_succ, List.getElem?_cons_zero]; rfl)
          case hsx15r0n | hfx15r0n | hrx15r0n => kernel_rfl
          case hQx15r0n => exact fun _ _ _ h => h
          case hwx15r0n => rfl
          simp only [Act.put, List.setIfInBounds_toArray, List.set_cons_succ, List.set_cons_zero]
          refine' wpAnyH_take (i := 16) ?h1x16r0n ?hsx16r0n ?hfx16r0n ?hrx16r0n ?hQx16r0n (Or.inr ⟨?hwx16r0n, rfl⟩) hS ?restx16r0n
          case h1x16r0n => (simp only [List.getElem?_toArray, List.getElem?_cons_succ, List.getElem?_cons_zero]; rfl)
          case hsx16r0n | hfx16r0n | hrx16r0n => kernel_rfl
          case hQx16r0n => exact fun _ _ _ h => h
          case hwx16r0n => rfl
          simp only [Act.put, List.setIfInBounds_toArray, List.set_cons_succ, List.set_cons_zero]
          refine' wpAnyH_take (i := 17) ?h1x17r0n ?hsx17r0n ?hfx17r0n ?hrx17r0n ?hQx17r0n (Or.inl ⟨?hwx17r0n, ?hyx17r0n⟩) hS ?restx17r0n
          case h1x17r0n => (simp only [List.getElem?_toArray, List.getElem?_cons_succ, List.getElem?_cons_zero]; rfl)
          case hsx17r0n | hfx17r0n | hrx17r0n => kernel_rfl
          case hQx17r0n => exact fun _ _ _ h => h
          case hwx17r0n => rfl
          case hyx17r0n =>
            intro W hW
            go_simp
            try with_reducible rfl
          simp only [Act.put, List.setIfInBounds_toArray, List.set_cons_succ, List.set_cons_zero]
          refine' wpAnyH_take (i := 18) ?h1x18r0n ?hsx18r0n ?hfx18r0n ?hrx18r0n ?hQx18r0n (Or.inl ⟨?hwx18r0n, ?hyx18r0n⟩) hS ?restx18r0n
          case h1x18r0n => (simp only [List.getElem?_toArray, List.getElem?_cons_succ, List.getElem?_cons_zero]; rfl)
          case hsx18r0n | hfx18r0n | hrx18r0n => kernel_rfl
          case hQx18r0n => exact fun _ _ _ h => h
          case hwx18r0n => rfl
          case hyx18r0n =>
            intro W hW
            go_simp
            try with_reducible rfl
          simp only [Act.put, List.setIfInBounds_toArray, List.set_cons_succ, List.set_cons_zero]
          refine' wpAnyH_take (i := 19) ?h1x19r0n ?hsx19r0n ?hfx19r0n ?hrx19r0n ?hQx19r0n (Or.inl ⟨?hwx19r0n, ?hyx19r0n⟩) hS ?restx19r0n
          case h1x19r0n => (simp only [List.getElem?_toArray, List.getElem?_cons_succ, List.getElem?_cons_zero]; rfl)
          case hsx19r0n | hfx19r0n | hrx19r0n => kernel_rfl
          case hQx19r0n => exact fun _ _ _ h => h
          case hwx19r0n => rfl
          case hyx19r0n =>
            intro W hW
            go_simp
            try with_reducible rfl
          simp only [Act.put, List.setIfInBounds_toArray, List.set_cons_succ, List.set_cons_zero]
          refine' wpAnyH_take (i := 21) ?h1x21r0n ?hsx21r0n ?hfx21r0n ?hrx21r0n ?hQx21r0n (Or.inl ⟨?hwx21r0n, ?hyx21r0n⟩) hS ?restx21r0n
          case h1x21r0n => (simp only [List.getElem?_toArray, List.getElem?_cons_succ, List.getElem?_cons_zero]; rfl)
          case hsx21r0n | hfx21r0n | hrx21r0n => kernel_rfl
          case hQx21r0n => exact fun _ _ _ h => h
          case hwx21r0n => rfl
          case hyx21r0n =>
            intro W hW
            go_simp
            try with_reducible rfl
          simp only [Act.put, List.setIfInBounds_toArray, List.set_cons_succ, List.set_cons_zero]
          refine' wpAnyH_take (i := 26) ?h1x26r0n ?hsx26r0n ?hfx26r0n ?hrx26r0n ?hQx26r0n (Or.inl ⟨?hwx26r0n, ?hyx26r0n⟩) hS ?restx26r0n
          case h1x26r0n => (simp only [List.getElem?_toArray, List.getElem?_cons_succ, List.getElem?_cons_zero]; rfl)
          case hsx26r0n | hfx26r0n | hrx26r0n => kernel_rfl
          case hQx26r0n => exact fun _ _ _ h => h
          case hwx26r0n => rfl
          case hyx26r0n =>
            intro W hW
            go_simp
            try with_reducible rfl
          simp only [Act.put, List.setIfInBounds_toArray, List.set_cons_succ, List.set_cons_zero]
          refine' wpAnyH_take (i := 20) ?h1x20r0n ?hsx20r0n ?hfx20r0n ?hrx20r0n ?hQx20r0n (Or.inl ⟨?hwx20r0n, ?hyx20r0n⟩) hS ?restx20r0n
          case h1x20r0n => (simp only [List.getElem?_toArray, List.getElem?_cons_succ, List.getElem?_cons_zero]; rfl)
          case hsx20r0n | hfx20r0n | hrx20r0n => kernel_rfl
          case hQx20r0n => exact fun _ _ _ h => h
          case hwx20r0n => rfl
          case hyx20r0n =>
            intro W hW
            have cx := (hW.cell (p := ⟨w.heap.size, 1, none⟩) (blk_lt GR0.out)).trans ((cell_row GR0.out 1).trans O1.out)
            go_simp
            try with_reducible rfl
          simp only [Act.put, List.setIfInBounds_toArray, List.set_cons_succ, List.set_cons_zero]
          refine' wpAnyH_take (i := 27) ?h1x27r0n ?hsx27r0n ?hfx27r0n ?hrx27r0n ?hQx27r0n (Or.inl ⟨?hwx27r0n, ?hyx27r0n⟩) hS ?restx27r0n
          case h1x27r0n => (simp only [List.getElem?_toArray, List.getElem?_cons_succ, List.getElem?_cons_zero]; rfl)
          case hsx27r0n | hfx27r0n | hrx27r0n => kernel_rfl
          case hQx27r0n => exact fun _ _ _ h => h
          case hwx27r0n => rfl
          case hyx27r0n =>
            intro W hW
            have cx := (hW.cell (p := ⟨w.heap.size, 0, none⟩) (blk_lt GR0.out)).trans ((cell_row GR0.out 0).trans O0.out)
            go_simp
            try with_reducible rfl
          simp only [Act.put, List.setIfInBounds_toArray, List.set_cons_succ, List.set_cons_zero]
          refine' wpAnyH_take (i := 22) ?h1x22r0n ?hsx22r0n ?hfx22r0n ?hrx22r0n ?hQx22r0n (Or.inl ⟨?hwx22r0n, ?hyx22r0n⟩) hS ?restx22r0n
          case h1x22r0n => (simp only [List.getElem?_toArray, List.getElem?_cons_succ, List.getElem?_cons_zero]; rfl)
          case hsx22r0n | hfx22r0n | hrx22r0n => kernel_rfl
          case hQx22r0n => exact fun _ _ _ h => h
          case hwx22r0n => rfl
          case hyx22r0n =>
            intro W hW
            go_simp
            try with_reducible rfl
          simp only [Act.put, List.setIfInBounds_toArray, List.set_cons_succ, List.set_cons_zero]
          refine' wpAnyH_take (i := 23) ?h1x23r0n ?hsx23r0n ?hfx23r0n ?hrx23r0n ?hQx23r0n (Or.inl ⟨?hwx23r0n, ?hyx23r0n⟩) hS ?restx23r0n
          case h1x23r0n => (simp only [List.getElem?_toArray, List.getElem?_cons_succ, List.getElem?_cons_zero]; rfl)
          case hsx23r0n | hfx23r0n | hrx23r0n => kernel_rfl
          case hQx23r0n => exact fun _ _ _ h => h
          case hwx23r0n => rfl
          case hyx23r0n =>
            intro W hW
            go_simp
            try with_reducible rfl
          simp only [Act.put, List.setIfInBounds_toArray, List.set_cons_succ, List.set_cons_zero]
          refine' wpAnyH_take (i := 24) ?h1x24r0n ?hsx24r0n ?hfx24r0n ?hrx24r0n ?hQx24r0n (Or.inl ⟨?hwx24r0n, ?hyx24r0n⟩) hS ?restx24r0n
          case h1x24r0n => (simp only [List.getElem?_toArray, List.getElem?_cons_succ, List.getElem?_cons_zero]; rfl)
          case hsx24r0n | hfx24r0n | hrx24r0n => kernel_rfl
          case hQx24r0n => exact fun _ _ _ h => h
          case hwx24r0n => rfl
          case hyx24r0n =>
            intro W hW
            have cx := (CU0.out.below hW).2
            go_simp
            try with_reducible rfl
          simp only [Act.put, List.setIfInBounds_toArray, List.set_cons_succ, List.set_cons_zero]
          refine' wpAnyH_take (i := 25) ?h1x25r0n ?hsx25r0n ?hfx25r0n ?hrx25r0n ?hQx25r0n (Or.inl ⟨?hwx25r0n, ?hyx25r0n⟩) hS ?restx25r0n
          case h1x25r0n => (simp only [List.getElem?_toArray, List.getElem?_cons_succ, List.getElem?_cons_zero]; rfl)
          case hsx25r0n | hfx25r0n | hrx25r0n => kernel_rfl
          case hQx25r0n => exact fun _ _ _ h => h
          case hwx25r0n => rfl
          case hyx25r0n =>
            intro W hW
            go_simp
            try with_reducible rfl
          simp only [Act.put, List.setIfInBounds_toArray, List.set_cons_succ, List.set_cons_zero]
          refine wpAnyH_ready (rs := [28]) (by kernel_rfl) (by simp) ?_
          refine' (AllReadyH.cons ?hoc28r0n (fun K hK => ?stc28r0n) AllReadyH.nil)
          case hoc28r0n => (simp only [List.getElem?_toArray, List.getElem?_cons_succ, List.getElem?_cons_zero]; rfl)
          go_simp
          refine (size_true Wr0ns).mono ?_
          rintro e Wr0nx28 ⟨rfl, hb⟩
          go_wp2_with fail
          refine hK.out _ _ (hS.trans (hb.mono hS.size)) (fun hHeld => ?_)
          clear hK K
          try simp only [Act.put, List.setIfInBounds_toArray, List.set_cons_succ, List.set_cons_zero]
          clear hS
          have hS := hHeld
          clear hHeld
          clear hb
          refine' wpAnyH_take (i := 29) ?h1x29r0nx28 ?hsx29r0nx28 ?hfx29r0nx28 ?hrx29r0nx28 ?hQx29r0nx28 (Or.inl ⟨?hwx29r0nx28, ?hyx29r0nx28⟩) hS ?restx29r0nx28
          case h1x29r0nx28 => (simp only [List.getElem?_toArray, List.getElem?_cons_succ, List.getElem?_cons_zero]; rfl)
          case hsx29r0nx28 | hfx29r0nx28 | hrx29r0nx28 => kernel_rfl
          case hQx29r0nx28 => exact fun _ _ _ h => h
          case hwx29r0nx28 => rfl
          case hyx29r0nx28 =>
            intro W hW
            go_simp
            try with_reducible rfl
          simp only [Act.put, List.setIfInBounds_toArray, List.set_cons_succ, List.set_cons_zero]
          refine' wpAnyH_take (i := 30) ?h1x30r0nx28 ?hsx30r0nx28 ?hfx30r0nx28 ?hrx30r0nx28 ?hQx30r0nx28 (Or.inl ⟨?hwx30r0nx28, ?hyx30r0nx28⟩) hS ?restx30r0nx28
          case h1x30r0nx28 => (simp only [List.getElem?_toArray, List.getElem?_cons_succ, List.getElem?_cons_zero]; rfl)
          case hsx30r0nx28 | hfx30r0nx28 | hrx30r0nx28 => kernel_rfl
          case hQx30r0nx28 => exact fun _ _ _ h => h
          case hwx30r0nx28 => rfl
          case hyx30r0nx28 =>
            intro W hW
            go_simp
            try with_reducible rfl
          simp only [Act.put, List.setIfInBounds_toArray, List.set_cons_succ, List.set_cons_zero]
          refine wpAnyH_done (by kernel_rfl) ?_ _
          have BE := Lib.hid (B1.out.trans ((HB.out.trans (hS.mono HB.out.size)).mono B1.out.size))
          clear hS
          go_wp2_with fail
          go_ret
          exact ⟨by rw [NO.out _ HLT.out BAD.out]; rfl, BE.out⟩
      · obtain ⟨i1, rfl⟩ : ∃ i1, i = i1 + 1 := ⟨i - 1, by omega⟩
        obtain ⟨b', o', u', e', ck', _⟩ := PW.out.at i1 (by rw [← HLL.out]; have := HLT.out; omega)
        have e2 : (⟨b, o, none⟩ : Addr) = ⟨b', o', none⟩ := by injection e'
        injection e2 with e3 e4
        subst e3 e4
        obtain ⟨kp, hkp⟩ : ∃ kp, kp = keyD x.l i1 := ⟨_, rfl⟩
        rw [Nat.add_sub_cancel, ← hkp, show decide (i1 + 1 = 0) = false from decide_eq_false (by omega), Bool.false_or] at GDI
        rw [← hkp] at ck'
        have CP := Lib.hid ck'
        have hp1 : (0 : Int) < (i1 : Int) + 1 := by omega
        have hw1 : IntKind.i64.wrap (i1 : Int) = (i1 : Int) := IntWalk.i64_in _ (by omega)
        have hl1 : (i1 : Int) < (L : Int) := by omega
        have hii2 : (i1 : Int) + 1 < (L : Int) := by omega
        have hii3 : (0 : Int) ≤ (i1 : Int) + 1 := by omega
        clear hii
        clear h0 e' ck' hkp
        by_cases hk : kp < key
        · have hk2 : ¬ (key ≤ kp) := by omega
          by_cases hb2 : bl = 44
          · subst hb2
            have YES : Hid (gdD x (i1 + 1) = true) := by show _ = _; rw [GDI.out, decide_eq_true hk]; rfl
            clear hk
            have GR0 := GR
            have CK0 := CK
            have CU0 := CU
            have CP0 := CP
            refine wp_region_held_drew (S := fun W => Below wr.heap.size wr W) (by kernel_rfl) ((Below.refl _ _).drew) (fun hS => ?_)
            have hb0 : Below wr.heap.size wr wr.drew := (Below.refl _ _).drew
            clear hb0 
            generalize wr.drew = Wr1ys at hS  ⊢
            refine' wpAnyH_take (i := 0) ?h1x0r1y ?hsx0r1y ?hfx0r1y ?hrx0r1y ?hQx0r1y (Or.inl ⟨?hwx0r1y, ?hyx0r1y⟩) hS ?restx0r1y
            case h1x0r1y => (simp only [List.getElem?_toArray, List.getElem?_cons_zero]; rfl)
            case hsx0r1y | hfx0r1y | hrx0r1y => kernel_rfl
            case hQx0r1y => exact fun _ _ _ h => h
            case hwx0r1y => rfl
            case hyx0r1y =>
              intro W hW
              go_simp
              try with_reducible rfl
            simp only [Act.put, List.setIfInBounds_toArray, List.set_cons_succ, List.set_cons_zero]
            refine' wpAnyH_take (i := 1) ?h1x1r1y ?hsx1r1y ?hfx1r1y ?hrx1r1y ?hQx1r1y (Or.inl ⟨?hwx1r1y, ?hyx1r1y⟩) hS ?restx1r1y
            case h1x1r1y => (simp only [List.getElem?_toArray, List.getElem?_cons_succ, List.getElem?_cons_zero]; rfl)
            case hsx1r1y | hfx1r1y | hrx1r1y => kernel_rfl
            case hQx1r1y => exact fun _ _ _ h => h
            case hwx1r1y => rfl
            case hyx1r1y =>
              intro W hW
              go_simp
              try with_reducible rfl
            simp only [Act.put, List.setIfInBounds_toArray, List.set_cons_succ, List.set_cons_zero]
            refine' wpAnyH_take (i := 2) ?h1x2r1y ?hsx2r1y ?hfx2r1y ?hrx2r1y ?hQx2r1y (Or.inl ⟨?hwx2r1y, ?hyx2r1y⟩) hS ?restx2r1y
            case h1x2r1y => (simp only [List.getElem?_toArray, List.getElem?_cons_succ, List.getElem?_cons_zero]; rfl)
            case hsx2r1y | hfx2r1y | hrx2r1y => kernel_rfl
            case hQx2r1y => exact fun _ _ _ h => h
            case hwx2r1y => rfl
            case hyx2r1y =>
              intro W hW
              go_simp
              try with_reducible rfl
            simp only [Act.put, List.setIfInBounds_toArray, List.set_cons_succ, List.set_cons_zero]
            refine' wpAnyH_take (i := 3) ?h1x3r1y ?hsx3r1y ?hfx3r1y ?hrx3r1y ?hQx3r1y (Or.inl ⟨?hwx3r1y, ?hyx3r1y⟩) hS ?restx3r1y
            case h1x3r1y => (simp only [List.getElem?_toArray, List.getElem?_cons_succ, List.getElem?_cons_zero]; rfl)
            case hsx3r1y | hfx3r1y | hrx3r1y => kernel_rfl
            case hQx3r1y => exact fun _ _ _ h => h
            case hwx3r1y => rfl
            case hyx3r1y =>
              intro W hW
              go_simp
              try with_reducible rfl
            simp only [Act.put, List.setIfInBounds_toArray, List.set_cons_succ, List.set_cons_zero]
            refine' wpAnyH_take (i := 5) ?h1x5r1y ?hsx5r1y ?hfx5r1y ?hrx5r1y ?hQx5r1y (Or.inl ⟨?hwx5r1y, ?hyx5r1y⟩) hS ?restx5r1y
            case h1x5r1y => (simp only [List.getElem?_toArray, List.getElem?_cons_succ, List.getElem?_cons_zero]; rfl)
            case hsx5r1y | hfx5r1y | hrx5r1y => kernel_rfl
            case hQx5r1y => exact fun _ _ _ h => h
            case hwx5r1y => rfl
            case hyx5r1y =>
              intro W hW
              go_simp
              try with_reducible rfl
            simp only [Act.put, List.setIfInBounds_toArray, List.set_cons_succ, List.set_cons_zero]
            refine' wpAnyH_take (i := 10) ?h1x10r1y ?hsx10r1y ?hfx10r1y ?hrx10r1y ?hQx10r1y (Or.inl ⟨?hwx10r1y, ?hyx10r1y⟩) hS ?restx10r1y
            case h1x10r1y => (simp only [List.getElem?_toArray, List.getElem?_cons_succ, List.getElem?_cons_zero]; rfl)
            case hsx10r1y | hfx10r1y | hrx10r1y => kernel_rfl
            case hQx10r1y => exact fun _ _ _ h => h
            case hwx10r1y => rfl
            case hyx10r1y =>
              intro W hW
              go_simp
              try with_reducible rfl
            simp only [Act.put, List.setIfInBounds_toArray, List.set_cons_succ, List.set_cons_zero]
            refine' wpAnyH_take (i := 12) ?h1x12r1y ?hsx12r1y ?hfx12r1y ?hrx12r1y ?hQx12r1y (Or.inl ⟨?hwx12r1y, ?hyx12r1y⟩) hS ?restx12r1y
            case h1x12r1y => (simp only [List.getElem?_toArray, List.getElem?_cons_succ, List.getElem?_cons_zero]; rfl)
            case hsx12r1y | hfx12r1y | hrx12r1y => kernel_rfl
            case hQx12r1y => exact fun _ _ _ h => h
            case hwx12r1y => rfl
            case hyx12r1y =>
              intro W hW
              go_simp
              try with_reducible rfl
            simp only [Act.put, List.setIfInBounds_toArray, List.set_cons_succ, List.set_cons_zero]
            refine' wpAnyH_take (i := 4) ?h1x4r1y ?hsx4r1y ?hfx4r1y ?hrx4r1y ?hQx4r1y (Or.inl ⟨?hwx4r1y, ?hyx4r1y⟩) hS ?restx4r1y
            case h1x4r1y => (simp only [List.getElem?_toArray, List.getElem?_cons_succ, List.getElem?_cons_zero]; rfl)
            case hsx4r1y | hfx4r1y | hrx4r1y => kernel_rfl
            case hQx4r1y => exact fun _ _ _ h => h
            case hwx4r1y => rfl
            case hyx4r1y =>
              intro W hW
              have cx := (hW.cell (p := ⟨w.heap.size, 1, none⟩) (blk_lt GR0.out)).trans ((cell_row GR0.out 1).trans O1.out)
              go_simp
              try with_reducible rfl
            simp only [Act.put, List.setIfInBounds_toArray, List.set_cons_succ, List.set_cons_zero]
            refine' wpAnyH_take (i := 6) ?h1x6r1y ?hsx6r1y ?hfx6r1y ?hrx6r1y ?hQx6r1y (Or.inl ⟨?hwx6r1y, ?hyx6r1y⟩) hS ?restx6r1y
            case h1x6r1y => (simp only [List.getElem?_toArray, List.getElem?_cons_succ, List.getElem?_cons_zero]; rfl)
            case hsx6r1y | hfx6r1y | hrx6r1y => kernel_rfl
            case hQx6r1y => exact fun _ _ _ h => h
            case hwx6r1y => rfl
            case hyx6r1y =>
              intro W hW
              go_simp
              try with_reducible rfl
            simp only [Act.put, List.setIfInBounds_toArray, List.set_cons_succ, List.set_cons_zero]
            refine' wpAnyH_take (i := 11) ?h1x11r1y ?hsx11r1y ?hfx11r1y ?hrx11r1y ?hQx11r1y (Or.inl ⟨?hwx11r1y, ?hyx11r1y⟩) hS ?restx11r1y
            case h1x11r1y => (simp only [List.getElem?_toArray, List.getElem?_cons_succ, List.getElem?_cons_zero]; rfl)
            case hsx11r1y | hfx11r1y | hrx11r1y => kernel_rfl
            case hQx11r1y => exact fun _ _ _ h => h
            case hwx11r1y => rfl
            case hyx11r1y =>
              intro W hW
              have cx := (hW.cell (p := ⟨w.heap.size, 1, none⟩) (blk_lt GR0.out)).trans ((cell_row GR0.out 1).trans O1.out)
              go_simp
              try with_reducible rfl
            simp only [Act.put, List.setIfInBounds_toArray, List.set_cons_succ, List.set_cons_zero]
            refine' wpAnyH_take (i := 7) ?h1x7r1y ?hsx7r1y ?hfx7r1y ?hrx7r1y ?hQx7r1y (Or.inl ⟨?hwx7r1y, ?hyx7r1y⟩) hS ?restx7r1y
            case h1x7r1y => (simp only [List.getElem?_toArray, List.getElem?_cons_succ, List.getElem?_cons_zero]; rfl)
            case hsx7r1y | hfx7r1y | hrx7r1y => kernel_rfl
            case hQx7r1y => exact fun _ _ _ h => h
            case hwx7r1y => rfl
            case hyx7r1y =>
              intro W hW
              go_simp
              try with_reducible rfl
            simp only [Act.put, List.setIfInBounds_toArray, List.set_cons_succ, List.set_cons_zero]
            refine' wpAnyH_take (i := 13) ?h1x13r1y ?hsx13r1y ?hfx13r1y ?hrx13r1y ?hQx13r1y (Or.inl ⟨?hwx13r1y, ?hyx13r1y⟩) hS ?restx13r1y
            case h1x13r1y => (simp only [List.getElem?_toArray, List.getElem?_cons_succ, List.getElem?_cons_zero]; rfl)
            case hsx13r1y | hfx13r1y | hrx13r1y => kernel_rfl
            case hQx13r1y => exact fun _ _ _ h => h
            case hwx13r1y => rfl
            case hyx13r1y =>
              intro W hW
              go_simp
              try with_reducible rfl
            simp only [Act.put, List.setIfInBounds_toArray, List.set_cons_succ, List.set_cons_zero]
            refine' wpAnyH_take (i := 8) ?h1x8r1y ?hsx8r1y ?hfx8r1y ?hrx8r1y ?hQx8r1y (Or.inl ⟨?hwx8r1y, ?hyx8r1y⟩) hS ?restx8r1y
            case h1x8r1y => (simp only [List.getElem?_toArray, List.getElem?_cons_succ, List.getElem?_cons_zero]; rfl)
            case hsx8r1y | hfx8r1y | hrx8r1y => kernel_rfl
            case hQx8r1y => exact fun _ _ _ h => h
            case hwx8r1y => rfl
            case hyx8r1y =>
              intro W hW
              go_simp
              try with_reducible rfl
            simp only [Act.put, List.setIfInBounds_toArray, List.set_cons_succ, List.set_cons_zero]
            refine' wpAnyH_take (i := 14) ?h1x14r1y ?hsx14r1y ?hfx14r1y ?hrx14r1y ?hQx14r1y (Or.inl ⟨?hwx14r1y, ?hyx14r1y⟩) hS ?restx14r1y
            case h1x14r1y => (simp only [List.getElem?_toArray, List.getElem?_cons_succ, List.getElem?_cons_zero]; rfl)
            case hsx14r1y | hfx14r1y | hrx14r1y => kernel_rfl
            case hQx14r1y => exact fun _ _ _ h => h
            case hwx14r1y => rfl
            case hyx14r1y =>
              intro W hW
              go_simp
              try with_reducible rfl
            simp only [Act.put, List.setIfInBounds_toArray, List.set_cons_succ, List.set_cons_zero]
            refine' wpAnyH_take (i := 9) ?h1x9r1y ?hsx9r1y ?hfx9r1y ?hrx9r1y ?hQx9r1y (Or.inl ⟨?hwx9r1y, ?hyx9r1y⟩) hS ?restx9r1y
            case h1x9r1y => (simp only [List.getElem?_toArray, List.getElem?_cons_succ, List.getElem?_cons_zero]; rfl)
            case hsx9r1y | hfx9r1y | hrx9r1y => kernel_rfl
            case hQx9r1y => exact fun _ _ _ h => h
            case hwx9r1y => rfl
            case hyx9r1y =>
              intro W hW
              have cx := (CP0.out.below hW).2
              go_simp
              try with_reducible rfl
            simp only [Act.put, List.setIfInBounds_toArray, List.set_cons_succ, List.set_cons_zero]
            refine' wpAnyH_take (i := 15) ?h1x15r1y ?hsx15r1y ?hfx15r1y ?hrx15r1y ?hQx15r1y (Or.inl ⟨?hwx15r1y, ?hyx15r1y⟩) hS ?restx15r1y
            case h1x15r1y => (simp only [List.getElem?_toArray, List.getElem?_cons_succ, List.getElem?_cons_zero]; rfl)
            case hsx15r1y | hfx15r1y | hrx15r1y => kernel_rfl
            case hQx15r1y => exact fun _ _ _ h => h
            case hwx15r1y => rfl
            case hyx15r1y =>
              intro W hW
              have cx := (CK0.out.below hW).2
              go_simp
              try with_reducible rfl
            simp only [Act.put, List.setIfInBounds_toArray, List.set_cons_succ, List.set_cons_zero]
            refine' wpAnyH_take (i := 16) ?h1x16r1y ?hsx16r1y ?hfx16r1y ?hrx16r1y ?hQx16r1y (Or.inl ⟨?hwx16r1y, ?hyx16r1y⟩) hS ?restx16r1y
            case h1x16r1y => (simp only [List.getElem?_toArray, List.getElem?_cons_succ, List.getElem?_cons_zero]; rfl)
            case hsx16r1y | hfx16r1y | hrx16r1y => kernel_rfl
            case hQx16r1y => exact fun _ _ _ h => h
            case hwx16r1y => rfl
            case hyx16r1y =>
              intro W hW
              go_simp
              try with_reducible rfl
            simp only [Act.put, List.setIfInBounds_toArray, List.set_cons_succ, List.set_cons_zero]
            refine' wpAnyH_take (i := 17) ?h1x17r1y ?hsx17r1y ?hfx17r1y ?hrx17r1y ?hQx17r1y (Or.inl ⟨?hwx17r1y, ?hyx17r1y⟩) hS ?restx17r1y
            case h1x17r1y => (simp only [List.getElem?_toArray, List.getElem?_cons_succ, List.getElem?_cons_zero]; rfl)
            case hsx17r1y | hfx17r1y | hrx17r1y => kernel_rfl
            case hQx17r1y => exact fun _ _ _ h => h
            case hwx17r1y => rfl
            case hyx17r1y =>
              intro W hW
              go_simp
              try with_reducible rfl
            simp only [Act.put, List.setIfInBounds_toArray, List.set_cons_succ, List.set_cons_zero]
            refine' wpAnyH_take (i := 18) ?h1x18r1y ?hsx18r1y ?hfx18r1y ?hrx18r1y ?hQx18r1y (Or.inl ⟨?hwx18r1y, ?hyx18r1y⟩) hS ?restx18r1y
            case h1x18r1y => (simp only [List.getElem?_toArray, List.getElem?_cons_succ, List.getElem?_cons_zero]; rfl)
            case hsx18r1y | hfx18r1y | hrx18r1y => kernel_rfl
            case hQx18r1y => exact fun _ _ _ h => h
            case hwx18r1y => rfl
            case hyx18r1y =>
              intro W hW
              go_simp
              try with_reducible rfl
            simp only [Act.put, List.setIfInBounds_toArray, List.set_cons_succ, List.set_cons_zero]
            refine' wpAnyH_take (i := 19) ?h1x19r1y ?hsx19r1y ?hfx19r1y ?hrx19r1y ?hQx19r1y (Or.inl ⟨?hwx19r1y, ?hyx19r1y⟩) hS ?restx19r1y
            case h1x19r1y => (simp only [List.getElem?_toArray, List.getElem?_cons_succ, List.getElem?_cons_zero]; rfl)
            case hsx19r1y | hfx19r1y | hrx19r1y => kernel_rfl
            case hQx19r1y => exact fun _ _ _ h => h
            case hwx19r1y => rfl
            case hyx19r1y =>
              intro W hW
              go_simp
              try with_reducible rfl
            simp only [Act.put, List.setIfInBounds_toArray, List.set_cons_succ, List.set_cons_zero]
            refine' wpAnyH_take (i := 21) ?h1x21r1y ?hsx21r1y ?hfx21r1y ?hrx21r1y ?hQx21r1y (Or.inl ⟨?hwx21r1y, ?hyx21r1y⟩) hS ?restx21r1y
            case h1x21r1y => (simp only [List.getElem?_toArray, List.getElem?_cons_succ, List.getElem?_cons_zero]; rfl)
            case hsx21r1y | hfx21r1y | hrx21r1y => kernel_rfl
            case hQx21r1y => exact fun _ _ _ h => h
            case hwx21r1y => rfl
            case hyx21r1y =>
              intro W hW
              go_simp
              try with_reducible rfl
            simp only [Act.put, List.setIfInBounds_toArray, List.set_cons_succ, List.set_cons_zero]
            refine' wpAnyH_take (i := 26) ?h1x26r1y ?hsx26r1y ?hfx26r1y ?hrx26r1y ?hQx26r1y (Or.inl ⟨?hwx26r1y, ?hyx26r1y⟩) hS ?restx26r1y
            case h1x26r1y => (simp only [List.getElem?_toArray, List.getElem?_cons_succ, List.getElem?_cons_zero]; rfl)
            case hsx26r1y | hfx26r1y | hrx26r1y => kernel_rfl
            case hQx26r1y => exact fun _ _ _ h => h
            case hwx26r1y => rfl
            case hyx26r1y =>
              intro W hW
              go_simp
              try with_reducible rfl
            simp only [Act.put, List.setIfInBounds_toArray, List.set_cons_succ, List.set_cons_zero]
            refine' wpAnyH_take (i := 20) ?h1x20r1y ?hsx20r1y ?hfx20r1y ?hrx20r1y ?hQx20r1y (Or.inl ⟨?hwx20r1y, ?hyx20r1y⟩) hS ?restx20r1y
            case h1x20r1y => (simp only [List.getElem?_toArray, List.getElem?_cons_succ, List.getElem?_cons_zero]; rfl)
            case hsx20r1y | hfx20r1y | hrx20r1y => kernel_rfl
            case hQx20r1y => exact fun _ _ _ h => h
            case hwx20r1y => rfl
            case hyx20r1y =>
              intro W hW
              have cx := (hW.cell (p := ⟨w.heap.size, 1, none⟩) (blk_lt GR0.out)).trans ((cell_row GR0.out 1).trans O1.out)
              go_simp
              try with_reducible rfl
            simp only [Act.put, List.setIfInBounds_toArray, List.set_cons_succ, List.set_cons_zero]
            refine' wpAnyH_take (i := 27) ?h1x27r1y ?hsx27r1y ?hfx27r1y ?hrx27r1y ?hQx27r1y (Or.inl ⟨?hwx27r1y, ?hyx27r1y⟩) hS ?restx27r1y
            case h1x27r1y => (simp only [List.getElem?_toArray, List.getElem?_cons_succ, List.getElem?_cons_zero]; rfl)
            case hsx27r1y | hfx27r1y | hrx27r1y => kernel_rfl
            case hQx27r1y => exact fun _ _ _ h => h
            case hwx27r1y => rfl
            case hyx27r1y =>
              intro W hW
              have cx := (hW.cell (p := ⟨w.heap.size, 0, none⟩) (blk_lt GR0.out)).trans ((cell_row GR0.out 0).trans O0.out)
              go_simp
              try with_reducible rfl
            simp only [Act.put, List.setIfInBounds_toArray, List.set_cons_succ, List.set_cons_zero]
            refine' wpAnyH_take (i := 22) ?h1x22r1y ?hsx22r1y ?hfx22r1y ?hrx22r1y ?hQx22r1y (Or.inl ⟨?hwx22r1y, ?hyx22r1y⟩) hS ?restx22r1y
            case h1x22r1y => (simp only [List.getElem?_toArray, List.getElem?_cons_succ, List.getElem?_cons_zero]; rfl)
            case hsx22r1y | hfx22r1y | hrx22r1y => kernel_rfl
            case hQx22r1y => exact fun _ _ _ h => h
            case hwx22r1y => rfl
            case hyx22r1y =>
              intro W hW
              go_simp
              try with_reducible rfl
            simp only [Act.put, List.setIfInBounds_toArray, List.set_cons_succ, List.set_cons_zero]
            refine' wpAnyH_take (i := 23) ?h1x23r1y ?hsx23r1y ?hfx23r1y ?hrx23r1y ?hQx23r1y (Or.inl ⟨?hwx23r1y, ?hyx23r1y⟩) hS ?restx23r1y
            case h1x23r1y => (simp only [List.getElem?_toArray, List.getElem?_cons_succ, List.getElem?_cons_zero]; rfl)
            case hsx23r1y | hfx23r1y | hrx23r1y => kernel_rfl
            case hQx23r1y => exact fun _ _ _ h => h
            case hwx23r1y => rfl
            case hyx23r1y =>
              intro W hW
              go_simp
              try with_reducible rfl
            simp only [Act.put, List.setIfInBounds_toArray, List.set_cons_succ, List.set_cons_zero]
            refine' wpAnyH_take (i := 24) ?h1x24r1y ?hsx24r1y ?hfx24r1y ?hrx24r1y ?hQx24r1y (Or.inl ⟨?hwx24r1y, ?hyx24r1y⟩) hS ?restx24r1y
            case h1x24r1y => (simp only [List.getElem?_toArray, List.getElem?_cons_succ, List.getElem?_cons_zero]; rfl)
            case hsx24r1y | hfx24r1y | hrx24r1y => kernel_rfl
            case hQx24r1y => exact fun _ _ _ h => h
            case hwx24r1y => rfl
            case hyx24r1y =>
              intro W hW
              have cx := (CU0.out.below hW).2
              go_simp
              try with_reducible rfl
            simp only [Act.put, List.setIfInBounds_toArray, List.set_cons_succ, List.set_cons_zero]
            refine' wpAnyH_take (i := 25) ?h1x25r1y ?hsx25r1y ?hfx25r1y ?hrx25r1y ?hQx25r1y (Or.inl ⟨?hwx25r1y, ?hyx25r1y⟩) hS ?restx25r1y
            case h1x25r1y => (simp only [List.getElem?_toArray, List.getElem?_cons_succ, List.getElem?_cons_zero]; rfl)
            case hsx25r1y | hfx25r1y | hrx25r1y => kernel_rfl
            case hQx25r1y => exact fun _ _ _ h => h
            case hwx25r1y => rfl
            case hyx25r1y =>
              intro W hW
              go_simp
              try with_reducible rfl
            simp only [Act.put, List.setIfInBounds_toArray, List.set_cons_succ, List.set_cons_zero]
            refine wpAnyH_ready (rs := [28]) (by kernel_rfl) (by simp) ?_
            refine' (AllReadyH.cons ?hoc28r1y (fun K hK => ?stc28r1y) AllReadyH.nil)
            case hoc28r1y => (simp only [List.getElem?_toArray, List.getElem?_cons_succ, List.getElem?_cons_zero]; rfl)
            go_simp
            refine (size_true Wr1ys).mono ?_
            rintro e Wr1yx28 ⟨rfl, hb⟩
            go_wp2_with fail
            refine hK.out _ _ (hS.trans (hb.mono hS.size)) (fun hHeld => ?_)
            clear hK K
            try simp only [Act.put, List.setIfInBounds_toArray, List.set_cons_succ, List.set_cons_zero]
            clear hS
            have hS := hHeld
            clear hHeld
            clear hb
            refine' wpAnyH_take (i := 29) ?h1x29r1yx28 ?hsx29r1yx28 ?hfx29r1yx28 ?hrx29r1yx28 ?hQx29r1yx28 (Or.inl ⟨?hwx29r1yx28, ?hyx29r1yx28⟩) hS ?restx29r1yx28
            case h1x29r1yx28 => (simp only [List.getElem?_toArray, List.getElem?_cons_succ, List.getElem?_cons_zero]; rfl)
            case hsx29r1yx28 | hfx29r1yx28 | hrx29r1yx28 => kernel_rfl
            case hQx29r1yx28 => exact fun _ _ _ h => h
            case hwx29r1yx28 => rfl
            case hyx29r1yx28 =>
              intro W hW
              go_simp
              try with_reducible rfl
            simp only [Act.put, List.setIfInBounds_toArray, List.set_cons_succ, List.set_cons_zero]
            refine' wpAnyH_take (i := 30) ?h1x30r1yx28 ?hsx30r1yx28 ?hfx30r1yx28 ?hrx30r1yx28 ?hQx30r1yx28 (Or.inl ⟨?hwx30r1yx28, ?hyx30r1yx28⟩) hS ?restx30r1yx28
            case h1x30r1yx28 => (simp only [List.getElem?_toArray, List.getElem?_cons_succ, List.getElem?_cons_zero]; rfl)
            case hsx30r1yx28 | hfx30r1yx28 | hrx30r1yx28 => kernel_rfl
            case hQx30r1yx28 => exact fun _ _ _ h => h
            case hwx30r1yx28 => rfl
            case hyx30r1yx28 =>
              intro W hW
              go_simp
              try with_reducible rfl
            simp only [Act.put, List.setIfInBounds_toArray, List.set_cons_succ, List.set_cons_zero]
            refine wpAnyH_done (by kernel_rfl) ?_ _
            have BE := Lib.hid (HB.out.trans (hS.mono HB.out.size))
            clear hS
            go_wp2_with fail
            go_roundw
            case rel => exact ⟨i1 + 1 + 1, by have := HLT.out; omega, by go_num, NXT.out YES.out, BE.out⟩
            case measure => simp [intOf]; have := HLT.out; omega
          · have hne : ((bl : Int) != 44) = true := by simp; omega
            have BAD : Hid (gdD x (i1 + 1) = false) := by show _ = _; rw [GDI.out]; simp [hb2]
            clear hb2 hk
            have GR0 := GR
            have CK0 := CK
            have CU0 := CU
            have CP0 := CP
            refine wp_region_held_drew (S := fun W => Below wr.heap.size wr W) (by kernel_rfl) ((Below.refl _ _).drew) (fun hS => ?_)
            have hb0 : Below wr.heap.size wr wr.drew := (Below.refl _ _).drew
            clear hb0 
            generalize wr.drew = Wr1ns at hS  ⊢
            refine' wpAnyH_take (i := 0) ?h1x0r1n ?hsx0r1n ?hfx0r1n ?hrx0r1n ?hQx0r1n (Or.inl ⟨?hwx0r1n, ?hyx0r1n⟩) hS ?restx0r1n
            case h1x0r1n => (simp only [List.getElem?_toArray, List.getElem?_cons_zero]; rfl)
            case hsx0r1n | hfx0r1n | hrx0r1n => kernel_rfl
            case hQx0r1n => exact fun _ _ _ h => h
            case hwx0r1n => rfl
            case hyx0r1n =>
              intro W hW
              go_simp
              try with_reducible rfl
            simp only [Act.put, List.setIfInBounds_toArray, List.set_cons_succ, List.set_cons_zero]
            refine' wpAnyH_take (i := 1) ?h1x1r1n ?hsx1r1n ?hfx1r1n ?hrx1r1n ?hQx1r1n (Or.inl ⟨?hwx1r1n, ?hyx1r1n⟩) hS ?restx1r1n
            case h1x1r1n => (simp only [List.getElem?_toArray, List.getElem?_cons_succ, List.getElem?_cons_zero]; rfl)
            case hsx1r1n | hfx1r1n | hrx1r1n => kernel_rfl
            case hQx1r1n => exact fun _ _ _ h => h
            case hwx1r1n => rfl
            case hyx1r1n =>
              intro W hW
              go_simp
              try with_reducible rfl
            simp only [Act.put, List.setIfInBounds_toArray, List.set_cons_succ, List.set_cons_zero]
            refine' wpAnyH_take (i := 2) ?h1x2r1n ?hsx2r1n ?hfx2r1n ?hrx2r1n ?hQx2r1n (Or.inl ⟨?hwx2r1n, ?hyx2r1n⟩) hS ?restx2r1n
            case h1x2r1n => (simp only [List.getElem?_toArray, List.getElem?_cons_succ, List.getElem?_cons_zero]; rfl)
            case hsx2r1n | hfx2r1n | hrx2r1n => kernel_rfl
            case hQx2r1n => exact fun _ _ _ h => h
            case hwx2r1n => rfl
            case hyx2r1n =>
              intro W hW
              go_simp
              try with_reducible rfl
            simp only [Act.put, List.setIfInBounds_toArray, List.set_cons_succ, List.set_cons_zero]
            refine' wpAnyH_take (i := 3) ?h1x3r1n ?hsx3r1n ?hfx3r1n ?hrx3r1n ?hQx3r1n (Or.inl ⟨?hwx3r1n, ?hyx3r1n⟩) hS ?restx3r1n
            case h1x3r1n => (simp only [List.getElem?_toArray, List.getElem?_cons_succ, List.getElem?_cons_zero]; rfl)
            case hsx3r1n | hfx3r1n | hrx3r1n => kernel_rfl
            case hQx3r1n => exact fun _ _ _ h => h
            case hwx3r1n => rfl
            case hyx3r1n =>
              intro W hW
              go_simp
              try with_reducible rfl
            simp only [Act.put, List.setIfInBounds_toArray, List.set_cons_succ, List.set_cons_zero]
            refine' wpAnyH_take (i := 5) ?h1x5r1n ?hsx5r1n ?hfx5r1n ?hrx5r1n ?hQx5r1n (Or.inl ⟨?hwx5r1n, ?hyx5r1n⟩) hS ?restx5r1n
            case h1x5r1n => (simp only [List.getElem?_toArray, List.getElem?_cons_succ, List.getElem?_cons_zero]; rfl)
            case hsx5r1n | hfx5r1n | hrx5r1n => kernel_rfl
            case hQx5r1n => exact fun _ _ _ h => h
            case hwx5r1n => rfl
            case hyx5r1n =>
              intro W hW
              go_simp
              try with_reducible rfl
            simp only [Act.put, List.setIfInBounds_toArray, List.set_cons_succ, List.set_cons_zero]
            refine' wpAnyH_take (i := 10) ?h1x10r1n ?hsx10r1n ?hfx10r1n ?hrx10r1n ?hQx10r1n (Or.inl ⟨?hwx10r1n, ?hyx10r1n⟩) hS ?restx10r1n
            case h1x10r1n => (simp only [List.getElem?_toArray, List.getElem?_cons_succ, List.getElem?_cons_zero]; rfl)
            case hsx10r1n | hfx10r1n | hrx10r1n => kernel_rfl
            case hQx10r1n => exact fun _ _ _ h => h
            case hwx10r1n => rfl
            case hyx10r1n =>
              intro W hW
              go_simp
              try with_reducible rfl
            simp only [Act.put, List.setIfInBounds_toArray, List.set_cons_succ, List.set_cons_zero]
            refine' wpAnyH_take (i := 12) ?h1x12r1n ?hsx12r1n ?hfx12r1n ?hrx12r1n ?hQx12r1n (Or.inl ⟨?hwx12r1n, ?hyx12r1n⟩) hS ?restx12r1n
            case h1x12r1n => (simp only [List.getElem?_toArray, List.getElem?_cons_succ, List.getElem?_cons_zero]; rfl)
            case hsx12r1n | hfx12r1n | hrx12r1n => kernel_rfl
            case hQx12r1n => exact fun _ _ _ h => h
            case hwx12r1n => rfl
            case hyx12r1n =>
              intro W hW
              go_simp
              try with_reducible rfl
            simp only [Act.put, List.setIfInBounds_toArray, List.set_cons_succ, List.set_cons_zero]
            refine' wpAnyH_take (i := 4) ?h1x4r1n ?hsx4r1n ?hfx4r1n ?hrx4r1n ?hQx4r1n (Or.inl ⟨?hwx4r1n, ?hyx4r1n⟩) hS ?restx4r1n
            case h1x4r1n => (simp only [List.getElem?_toArray, List.getElem?_cons_succ, List.getElem?_cons_zero]; rfl)
            case hsx4r1n | hfx4r1n | hrx4r1n => kernel_rfl
            case hQx4r1n => exact fun _ _ _ h => h
            case hwx4r1n => rfl
            case hyx4r1n =>
              intro W hW
              have cx := (hW.cell (p := ⟨w.heap.size, 1, none⟩) (blk_lt GR0.out)).trans ((cell_row GR0.out 1).trans O1.out)
              go_simp
              try with_reducible rfl
            simp only [Act.put, List.setIfInBounds_toArray, List.set_cons_succ, List.set_cons_zero]
            refine' wpAnyH_take (i := 6) ?h1x6r1n ?hsx6r1n ?hfx6r1n ?hrx6r1n ?hQx6r1n (Or.inl ⟨?hwx6r1n, ?hyx6r1n⟩) hS ?restx6r1n
            case h1x6r1n => (simp only [List.getElem?_toArray, List.getElem?_cons_succ, List.getElem?_cons_zero]; rfl)
            case hsx6r1n | hfx6r1n | hrx6r1n => kernel_rfl
            case hQx6r1n => exact fun _ _ _ h => h
            case hwx6r1n => rfl
            case hyx6r1n =>
              intro W hW
              go_simp
              try with_reducible rfl
            simp only [Act.put, List.setIfInBounds_toArray, List.set_cons_succ, List.set_cons_zero]
            refine' wpAnyH_take (i := 11) ?h1x11r1n ?hsx11r1n ?hfx11r1n ?hrx11r1n ?hQx11r1n (Or.inl ⟨?hwx11r1n, ?hyx11r1n⟩) hS ?restx11r1n
            case h1x11r1n => (simp only [List.getElem?_toArray, List.getElem?_cons_succ, List.getElem?_cons_zero]; rfl)
            case hsx11r1n | hfx11r1n | hrx11r1n => kernel_rfl
            case hQx11r1n => exact fun _ _ _ h => h
            case hwx11r1n => rfl
            case hyx11r1n =>
              intro W hW
              have cx := (hW.cell (p := ⟨w.heap.size, 1, none⟩) (blk_lt GR0.out)).trans ((cell_row GR0.out 1).trans O1.out)
              go_simp
              try with_reducible rfl
            simp only [Act.put, List.setIfInBounds_toArray, List.set_cons_succ, List.set_cons_zero]
            refine' wpAnyH_take (i := 7) ?h1x7r1n ?hsx7r1n ?hfx7r1n ?hrx7r1n ?hQx7r1n (Or.inl ⟨?hwx7r1n, ?hyx7r1n⟩) hS ?restx7r1n
            case h1x7r1n => (simp only [List.getElem?_toArray, List.getElem?_cons_succ, List.getElem?_cons_zero]; rfl)
            case hsx7r1n | hfx7r1n | hrx7r1n => kernel_rfl
            case hQx7r1n => exact fun _ _ _ h => h
            case hwx7r1n => rfl
            case hyx7r1n =>
              intro W hW
              go_simp
              try with_reducible rfl
            simp only [Act.put, List.setIfInBounds_toArray, List.set_cons_succ, List.set_cons_zero]
            refine' wpAnyH_take (i := 13) ?h1x13r1n ?hsx13r1n ?hfx13r1n ?hrx13r1n ?hQx13r1n (Or.inl ⟨?hwx13r1n, ?hyx13r1n⟩) hS ?restx13r1n
            case h1x13r1n => (simp only [List.getElem?_toArray, List.getElem?_cons_succ, List.getElem?_cons_zero]; rfl)
            case hsx13r1n | hfx13r1n | hrx13r1n => kernel_rfl
            case hQx13r1n => exact fun _ _ _ h => h
            case hwx13r1n => rfl
            case hyx13r1n =>
              intro W hW
              go_simp
              try with_reducible rfl
            simp only [Act.put, List.setIfInBounds_toArray, List.set_cons_succ, List.set_cons_zero]
            refine' wpAnyH_take (i := 8) ?h1x8r1n ?hsx8r1n ?hfx8r1n ?hrx8r1n ?hQx8r1n (Or.inl ⟨?hwx8r1n, ?hyx8r1n⟩) hS ?restx8r1n
            case h1x8r1n => (simp only [List.getElem?_toArray, List.getElem?_cons_succ, List.getElem?_cons_zero]; rfl)
            case hsx8r1n | hfx8r1n | hrx8r1n => kernel_rfl
            case hQx8r1n => exact fun _ _ _ h => h
            case hwx8r1n => rfl
            case hyx8r1n =>
              intro W hW
              go_simp
              try with_reducible rfl
            simp only [Act.put, List.setIfInBounds_toArray, List.set_cons_succ, List.set_cons_zero]
            refine' wpAnyH_take (i := 14) ?h1x14r1n ?hsx14r1n ?hfx14r1n ?hrx14r1n ?hQx14r1n (Or.inl ⟨?hwx14r1n, ?hyx14r1n⟩) hS ?restx14r1n
            case h1x14r1n => (simp only [List.getElem?_toArray, List.getElem?_cons_succ, List.getElem?_cons_zero]; rfl)
            case hsx14r1n | hfx14r1n | hrx14r1n => kernel_rfl
            case hQx14r1n => exact fun _ _ _ h => h
            case hwx14r1n => rfl
            case hyx14r1n =>
              intro W hW
              go_simp
              try with_reducible rfl
            simp only [Act.put, List.setIfInBounds_toArray, List.set_cons_succ, List.set_cons_zero]
            refine' wpAnyH_take (i := 9) ?h1x9r1n ?hsx9r1n ?hfx9r1n ?hrx9r1n ?hQx9r1n (Or.inl ⟨?hwx9r1n, ?hyx9r1n⟩) hS ?restx9r1n
            case h1x9r1n => (simp only [List.getElem?_toArray, List.getElem?_cons_succ, List.getElem?_cons_zero]; rfl)
            case hsx9r1n | hfx9r1n | hrx9r1n => kernel_rfl
            case hQx9r1n => exact fun _ _ _ h => h
            case hwx9r1n => rfl
            case hyx9r1n =>
              intro W hW
              have cx := (CP0.out.below hW).2
              go_simp
              try with_reducible rfl
            simp only [Act.put, List.setIfInBounds_toArray, List.set_cons_succ, List.set_cons_zero]
            refine' wpAnyH_take (i := 15) ?h1x15r1n ?hsx15r1n ?hfx15r1n ?hrx15r1n ?hQx15r1n (Or.inl ⟨?hwx15r1n, ?hyx15r1n⟩) hS ?restx15r1n
            case h1x15r1n => (simp only [List.getElem?_toArray, List.getElem?_cons_succ, List.getElem?_cons_zero]; rfl)
            case hsx15r1n | hfx15r1n | hrx15r1n => kernel_rfl
            case hQx15r1n => exact fun _ _ _ h => h
            case hwx15r1n => rfl
            case hyx15r1n =>
              intro W hW
              have cx := (CK0.out.below hW).2
              go_simp
              try with_reducible rfl
            simp only [Act.put, List.setIfInBounds_toArray, List.set_cons_succ, List.set_cons_zero]
            refine' wpAnyH_take (i := 16) ?h1x16r1n ?hsx16r1n ?hfx16r1n ?hrx16r1n ?hQx16r1n (Or.inl ⟨?hwx16r1n, ?hyx16r1n⟩) hS ?restx16r1n
            case h1x16r1n => (simp only [List.getElem?_toArray, List.getElem?_cons_succ, List.getElem?_cons_zero]; rfl)
            case hsx16r1n | hfx16r1n | hrx16r1n => kernel_rfl
            case hQx16r1n => exact fun _ _ _ h => h
            case hwx16r1n => rfl
            case hyx16r1n =>
              intro W hW
              go_simp
              try with_reducible rfl
            simp only [Act.put, List.setIfInBounds_toArray, List.set_cons_succ, List.set_cons_zero]
            refine' wpAnyH_take (i := 17) ?h1x17r1n ?hsx17r1n ?hfx17r1n ?hrx17r1n ?hQx17r1n (Or.inl ⟨?hwx17r1n, ?hyx17r1n⟩) hS ?restx17r1n
            case h1x17r1n => (simp only [List.getElem?_toArray, List.getElem?_cons_succ, List.getElem?_cons_zero]; rfl)
            case hsx17r1n | hfx17r1n | hrx17r1n => kernel_rfl
            case hQx17r1n => exact fun _ _ _ h => h
            case hwx17r1n => rfl
            case hyx17r1n =>
              intro W hW
              go_simp
              try with_reducible rfl
            simp only [Act.put, List.setIfInBounds_toArray, List.set_cons_succ, List.set_cons_zero]
            refine' wpAnyH_take (i := 18) ?h1x18r1n ?hsx18r1n ?hfx18r1n ?hrx18r1n ?hQx18r1n (Or.inl ⟨?hwx18r1n, ?hyx18r1n⟩) hS ?restx18r1n
            case h1x18r1n => (simp only [List.getElem?_toArray, List.getElem?_cons_succ, List.getElem?_cons_zero]; rfl)
            case hsx18r1n | hfx18r1n | hrx18r1n => kernel_rfl
            case hQx18r1n => exact fun _ _ _ h => h
            case hwx18r1n => rfl
            case hyx18r1n =>
              intro W hW
              go_simp
              try with_reducible rfl
            simp only [Act.put, List.setIfInBounds_toArray, List.set_cons_succ, List.set_cons_zero]
            refine' wpAnyH_take (i := 19) ?h1x19r1n ?hsx19r1n ?hfx19r1n ?hrx19r1n ?hQx19r1n (Or.inl ⟨?hwx19r1n, ?hyx19r1n⟩) hS ?restx19r1n
            case h1x19r1n => (simp only [List.getElem?_toArray, List.getElem?_cons_succ, List.getElem?_cons_zero]; rfl)
            case hsx19r1n | hfx19r1n | hrx19r1n => kernel_rfl
            case hQx19r1n => exact fun _ _ _ h => h
            case hwx19r1n => rfl
            case hyx19r1n =>
              intro W hW
              go_simp
              try with_reducible rfl
            simp only [Act.put, List.setIfInBounds_toArray, List.set_cons_succ, List.set_cons_zero]
            refine' wpAnyH_take (i := 21) ?h1x21r1n ?hsx21r1n ?hfx21r1n ?hrx21r1n ?hQx21r1n (Or.inl ⟨?hwx21r1n, ?hyx21r1n⟩) hS ?restx21r1n
            case h1x21r1n => (simp only [List.getElem?_toArray, List.getElem?_cons_succ, List.getElem?_cons_zero]; rfl)
            case hsx21r1n | hfx21r1n | hrx21r1n => kernel_rfl
            case hQx21r1n => exact fun _ _ _ h => h
            case hwx21r1n => rfl
            case hyx21r1n =>
              intro W hW
              go_simp
              try with_reducible rfl
            simp only [Act.put, List.setIfInBounds_toArray, List.set_cons_succ, List.set_cons_zero]
            refine' wpAnyH_take (i := 26) ?h1x26r1n ?hsx26r1n ?hfx26r1n ?hrx26r1n ?hQx26r1n (Or.inl ⟨?hwx26r1n, ?hyx26r1n⟩) hS ?restx26r1n
            case h1x26r1n => (simp only [List.getElem?_toArray, List.getElem?_cons_succ, List.getElem?_cons_zero]; rfl)
            case hsx26r1n | hfx26r1n | hrx26r1n => kernel_rfl
            case hQx26r1n => exact fun _ _ _ h => h
            case hwx26r1n => rfl
            case hyx26r1n =>
              intro W hW
              go_simp
              try with_reducible rfl
            simp only [Act.put, List.setIfInBounds_toArray, List.set_cons_succ, List.set_cons_zero]
            refine' wpAnyH_take (i := 20) ?h1x20r1n ?hsx20r1n ?hfx20r1n ?hrx20r1n ?hQx20r1n (Or.inl ⟨?hwx20r1n, ?hyx20r1n⟩) hS ?restx20r1n
            case h1x20r1n => (simp only [List.getElem?_toArray, List.getElem?_cons_succ, List.getElem?_cons_zero]; rfl)
            case hsx20r1n | hfx20r1n | hrx20r1n => kernel_rfl
            case hQx20r1n => exact fun _ _ _ h => h
            case hwx20r1n => rfl
            case hyx20r1n =>
              intro W hW
              have cx := (hW.cell (p := ⟨w.heap.size, 1, none⟩) (blk_lt GR0.out)).trans ((cell_row GR0.out 1).trans O1.out)
              go_simp
              try with_reducible rfl
            simp only [Act.put, List.setIfInBounds_toArray, List.set_cons_succ, List.set_cons_zero]
            refine' wpAnyH_take (i := 27) ?h1x27r1n ?hsx27r1n ?hfx27r1n ?hrx27r1n ?hQx27r1n (Or.inl ⟨?hwx27r1n, ?hyx27r1n⟩) hS ?restx27r1n
            case h1x27r1n => (simp only [List.getElem?_toArray, List.getElem?_cons_succ, List.getElem?_cons_zero]; rfl)
            case hsx27r1n | hfx27r1n | hrx27r1n => kernel_rfl
            case hQx27r1n => exact fun _ _ _ h => h
            case hwx27r1n => rfl
            case hyx27r1n =>
              intro W hW
              have cx := (hW.cell (p := ⟨w.heap.size, 0, none⟩) (blk_lt GR0.out)).trans ((cell_row GR0.out 0).trans O0.out)
              go_simp
              try with_reducible rfl
            simp only [Act.put, List.setIfInBounds_toArray, List.set_cons_succ, List.set_cons_zero]
            refine' wpAnyH_take (i := 22) ?h1x22r1n ?hsx22r1n ?hfx22r1n ?hrx22r1n ?hQx22r1n (Or.inl ⟨?hwx22r1n, ?hyx22r1n⟩) hS ?restx22r1n
            case h1x22r1n => (simp only [List.getElem?_toArray, List.getElem?_cons_succ, List.getElem?_cons_zero]; rfl)
            case hsx22r1n | hfx22r1n | hrx22r1n => kernel_rfl
            case hQx22r1n => exact fun _ _ _ h => h
            case hwx22r1n => rfl
            case hyx22r1n =>
              intro W hW
              go_simp
              try with_reducible rfl
            simp only [Act.put, List.setIfInBounds_toArray, List.set_cons_succ, List.set_cons_zero]
            refine' wpAnyH_take (i := 23) ?h1x23r1n ?hsx23r1n ?hfx23r1n ?hrx23r1n ?hQx23r1n (Or.inl ⟨?hwx23r1n, ?hyx23r1n⟩) hS ?restx23r1n
            case h1x23r1n => (simp only [List.getElem?_toArray, List.getElem?_cons_succ, List.getElem?_cons_zero]; rfl)
            case hsx23r1n | hfx23r1n | hrx23r1n => kernel_rfl
            case hQx23r1n => exact fun _ _ _ h => h
            case hwx23r1n => rfl
            case hyx23r1n =>
              intro W hW
              go_simp
              try with_reducible rfl
            simp only [Act.put, List.setIfInBounds_toArray, List.set_cons_succ, List.set_cons_zero]
            refine' wpAnyH_take (i := 24) ?h1x24r1n ?hsx24r1n ?hfx24r1n ?hrx24r1n ?hQx24r1n (Or.inl ⟨?hwx24r1n, ?hyx24r1n⟩) hS ?restx24r1n
            case h1x24r1n => (simp only [List.getElem?_toArray, List.getElem?_cons_succ, List.getElem?_cons_zero]; rfl)
            case hsx24r1n | hfx24r1n | hrx24r1n => kernel_rfl
            case hQx24r1n => exact fun _ _ _ h => h
            case hwx24r1n => rfl
            case hyx24r1n =>
              intro W hW
              have cx := (CU0.out.below hW).2
              go_simp
              try with_reducible rfl
            simp only [Act.put, List.setIfInBounds_toArray, List.set_cons_succ, List.set_cons_zero]
            refine' wpAnyH_take (i := 25) ?h1x25r1n ?hsx25r1n ?hfx25r1n ?hrx25r1n ?hQx25r1n (Or.inl ⟨?hwx25r1n, ?hyx25r1n⟩) hS ?restx25r1n
            case h1x25r1n => (simp only [List.getElem?_toArray, List.getElem?_cons_succ, List.getElem?_cons_zero]; rfl)
            case hsx25r1n | hfx25r1n | hrx25r1n => kernel_rfl
            case hQx25r1n => exact fun _ _ _ h => h
            case hwx25r1n => rfl
            case hyx25r1n =>
              intro W hW
              go_simp
              try with_reducible rfl
            simp only [Act.put, List.setIfInBounds_toArray, List.set_cons_succ, List.set_cons_zero]
            refine wpAnyH_ready (rs := [28]) (by kernel_rfl) (by simp) ?_
            refine' (AllReadyH.cons ?hoc28r1n (fun K hK => ?stc28r1n) AllReadyH.nil)
            case hoc28r1n => (simp only [List.getElem?_toArray, List.getElem?_cons_succ, List.getElem?_cons_zero]; rfl)
            go_simp
            refine (size_true Wr1ns).mono ?_
            rintro e Wr1nx28 ⟨rfl, hb⟩
            go_wp2_with fail
            refine hK.out _ _ (hS.trans (hb.mono hS.size)) (fun hHeld => ?_)
            clear hK K
            try simp only [Act.put, List.setIfInBounds_toArray, List.set_cons_succ, List.set_cons_zero]
            clear hS
            have hS := hHeld
            clear hHeld
            clear hb
            refine' wpAnyH_take (i := 29) ?h1x29r1nx28 ?hsx29r1nx28 ?hfx29r1nx28 ?hrx29r1nx28 ?hQx29r1nx28 (Or.inl ⟨?hwx29r1nx28, ?hyx29r1nx28⟩) hS ?restx29r1nx28
            case h1x29r1nx28 => (simp only [List.getElem?_toArray, List.getElem?_cons_succ, List.getElem?_cons_zero]; rfl)
            case hsx29r1nx28 | hfx29r1nx28 | hrx29r1nx28 => kernel_rfl
            case hQx29r1nx28 => exact fun _ _ _ h => h
            case hwx29r1nx28 => rfl
            case hyx29r1nx28 =>
              intro W hW
              go_simp
              try with_reducible rfl
            simp only [Act.put, List.setIfInBounds_toArray, List.set_cons_succ, List.set_cons_zero]
            refine' wpAnyH_take (i := 30) ?h1x30r1nx28 ?hsx30r1nx28 ?hfx30r1nx28 ?hrx30r1nx28 ?hQx30r1nx28 (Or.inl ⟨?hwx30r1nx28, ?hyx30r1nx28⟩) hS ?restx30r1nx28
            case h1x30r1nx28 => (simp only [List.getElem?_toArray, List.getElem?_cons_succ, List.getElem?_cons_zero]; rfl)
            case hsx30r1nx28 | hfx30r1nx28 | hrx30r1nx28 => kernel_rfl
            case hQx30r1nx28 => exact fun _ _ _ h => h
            case hwx30r1nx28 => rfl
            case hyx30r1nx28 =>
              intro W hW
              go_simp
              try with_reducible rfl
            simp only [Act.put, List.setIfInBounds_toArray, List.set_cons_succ, List.set_cons_zero]
            refine wpAnyH_done (by kernel_rfl) ?_ _
            have BE := Lib.hid (B1.out.trans ((HB.out.trans (hS.mono HB.out.size)).mono B1.out.size))
            clear hS
            go_wp2_with fail
            go_ret
            exact ⟨by rw [NO.out _ HLT.out BAD.out]; rfl, BE.out⟩
        · have hk2 : key ≤ kp := by omega
          have BAD : Hid (gdD x (i1 + 1) = false) := by show _ = _; rw [GDI.out, decide_eq_false hk]; rfl
          clear hk
          have GR0 := GR
          have CK0 := CK
          have CU0 := CU
          have CP0 := CP
          refine wp_region_held_drew (S := fun W => Below wr.heap.size wr W) (by kernel_rfl) ((Below.refl _ _).drew) (fun hS => ?_)
          have hb0 : Below wr.heap.size wr wr.drew := (Below.refl _ _).drew
          clear hb0 
          generalize wr.drew = Wr1ks at hS  ⊢
          refine' wpAnyH_take (i := 0) ?h1x0r1k ?hsx0r1k ?hfx0r1k ?hrx0r1k ?hQx0r1k (Or.inl ⟨?hwx0r1k, ?hyx0r1k⟩) hS ?restx0r1k
          case h1x0r1k => (simp only [List.getElem?_toArray, List.getElem?_cons_zero]; rfl)
          case hsx0r1k | hfx0r1k | hrx0r1k => kernel_rfl
          case hQx0r1k => exact fun _ _ _ h => h
          case hwx0r1k => rfl
          case hyx0r1k =>
            intro W hW
            go_simp
            try with_reducible rfl
          simp only [Act.put, List.setIfInBounds_toArray, List.set_cons_succ, List.set_cons_zero]
          refine' wpAnyH_take (i := 1) ?h1x1r1k ?hsx1r1k ?hfx1r1k ?hrx1r1k ?hQx1r1k (Or.inl ⟨?hwx1r1k, ?hyx1r1k⟩) hS ?restx1r1k
          case h1x1r1k => (simp only [List.getElem?_toArray, List.getElem?_cons_succ, List.getElem?_cons_zero]; rfl)
          case hsx1r1k | hfx1r1k | hrx1r1k => kernel_rfl
          case hQx1r1k => exact fun _ _ _ h => h
          case hwx1r1k => rfl
          case hyx1r1k =>
            intro W hW
            go_simp
            try with_reducible rfl
          simp only [Act.put, List.setIfInBounds_toArray, List.set_cons_succ, List.set_cons_zero]
          refine' wpAnyH_take (i := 2) ?h1x2r1k ?hsx2r1k ?hfx2r1k ?hrx2r1k ?hQx2r1k (Or.inl ⟨?hwx2r1k, ?hyx2r1k⟩) hS ?restx2r1k
          case h1x2r1k => (simp only [List.getElem?_toArray, List.getElem?_cons_succ, List.getElem?_cons_zero]; rfl)
          case hsx2r1k | hfx2r1k | hrx2r1k => kernel_rfl
          case hQx2r1k => exact fun _ _ _ h => h
          case hwx2r1k => rfl
          case hyx2r1k =>
            intro W hW
            go_simp
            try with_reducible rfl
          simp only [Act.put, List.setIfInBounds_toArray, List.set_cons_succ, List.set_cons_zero]
          refine' wpAnyH_take (i := 3) ?h1x3r1k ?hsx3r1k ?hfx3r1k ?hrx3r1k ?hQx3r1k (Or.inl ⟨?hwx3r1k, ?hyx3r1k⟩) hS ?restx3r1k
          case h1x3r1k => (simp only [List.getElem?_toArray, List.getElem?_cons_succ, List.getElem?_cons_zero]; rfl)
          case hsx3r1k | hfx3r1k | hrx3r1k => kernel_rfl
          case hQx3r1k => exact fun _ _ _ h => h
          case hwx3r1k => rfl
          case hyx3r1k =>
            intro W hW
            go_simp
            try with_reducible rfl
          simp only [Act.put, List.setIfInBounds_toArray, List.set_cons_succ, List.set_cons_zero]
          refine' wpAnyH_take (i := 5) ?h1x5r1k ?hsx5r1k ?hfx5r1k ?hrx5r1k ?hQx5r1k (Or.inl ⟨?hwx5r1k, ?hyx5r1k⟩) hS ?restx5r1k
          case h1x5r1k => (simp only [List.getElem?_toArray, List.getElem?_cons_succ, List.getElem?_cons_zero]; rfl)
          case hsx5r1k | hfx5r1k | hrx5r1k => kernel_rfl
          case hQx5r1k => exact fun _ _ _ h => h
          case hwx5r1k => rfl
          case hyx5r1k =>
            intro W hW
            go_simp
            try with_reducible rfl
          simp only [Act.put, List.setIfInBounds_toArray, List.set_cons_succ, List.set_cons_zero]
          refine' wpAnyH_take (i := 10) ?h1x10r1k ?hsx10r1k ?hfx10r1k ?hrx10r1k ?hQx10r1k (Or.inl ⟨?hwx10r1k, ?hyx10r1k⟩) hS ?restx10r1k
          case h1x10r1k => (simp only [List.getElem?_toArray, List.getElem?_cons_succ, List.getElem?_cons_zero]; rfl)
          case hsx10r1k | hfx10r1k | hrx10r1k => kernel_rfl
          case hQx10r1k => exact fun _ _ _ h => h
          case hwx10r1k => rfl
          case hyx10r1k =>
            intro W hW
            go_simp
            try with_reducible rfl
          simp only [Act.put, List.setIfInBounds_toArray, List.set_cons_succ, List.set_cons_zero]
          refine' wpAnyH_take (i := 12) ?h1x12r1k ?hsx12r1k ?hfx12r1k ?hrx12r1k ?hQx12r1k (Or.inl ⟨?hwx12r1k, ?hyx12r1k⟩) hS ?restx12r1k
          case h1x12r1k => (simp only [List.getElem?_toArray, List.getElem?_cons_succ, List.getElem?_cons_zero]; rfl)
          case hsx12r1k | hfx12r1k | hrx12r1k => kernel_rfl
          case hQx12r1k => exact fun _ _ _ h => h
          case hwx12r1k => rfl
          case hyx12r1k =>
            intro W hW
            go_simp
            try with_reducible rfl
          simp only [Act.put, List.setIfInBounds_toArray, List.set_cons_succ, List.set_cons_zero]
          refine' wpAnyH_take (i := 4) ?h1x4r1k ?hsx4r1k ?hfx4r1k ?hrx4r1k ?hQx4r1k (Or.inl ⟨?hwx4r1k, ?hyx4r1k⟩) hS ?restx4r1k
          case h1x4r1k => (simp only [List.getElem?_toArray, List.getElem?_cons_succ, List.getElem?_cons_zero]; rfl)
          case hsx4r1k | hfx4r1k | hrx4r1k => kernel_rfl
          case hQx4r1k => exact fun _ _ _ h => h
          case hwx4r1k => rfl
          case hyx4r1k =>
            intro W hW
            have cx := (hW.cell (p := ⟨w.heap.size, 1, none⟩) (blk_lt GR0.out)).trans ((cell_row GR0.out 1).trans O1.out)
            go_simp
            try with_reducible rfl
          simp only [Act.put, List.setIfInBounds_toArray, List.set_cons_succ, List.set_cons_zero]
          refine' wpAnyH_take (i := 6) ?h1x6r1k ?hsx6r1k ?hfx6r1k ?hrx6r1k ?hQx6r1k (Or.inl ⟨?hwx6r1k, ?hyx6r1k⟩) hS ?restx6r1k
          case h1x6r1k => (simp only [List.getElem?_toArray, List.getElem?_cons_succ, List.getElem?_cons_zero]; rfl)
          case hsx6r1k | hfx6r1k | hrx6r1k => kernel_rfl
          case hQx6r1k => exact fun _ _ _ h => h
          case hwx6r1k => rfl
          case hyx6r1k =>
            intro W hW
            go_simp
            try with_reducible rfl
          simp only [Act.put, List.setIfInBounds_toArray, List.set_cons_succ, List.set_cons_zero]
          refine' wpAnyH_take (i := 11) ?h1x11r1k ?hsx11r1k ?hfx11r1k ?hrx11r1k ?hQx11r1k (Or.inl ⟨?hwx11r1k, ?hyx11r1k⟩) hS ?restx11r1k
          case h1x11r1k => (simp only [List.getElem?_toArray, List.getElem?_cons_succ, List.getElem?_cons_zero]; rfl)
          case hsx11r1k | hfx11r1k | hrx11r1k => kernel_rfl
          case hQx11r1k => exact fun _ _ _ h => h
          case hwx11r1k => rfl
          case hyx11r1k =>
            intro W hW
            have cx := (hW.cell (p := ⟨w.heap.size, 1, none⟩) (blk_lt GR0.out)).trans ((cell_row GR0.out 1).trans O1.out)
            go_simp
            try with_reducible rfl
          simp only [Act.put, List.setIfInBounds_toArray, List.set_cons_succ, List.set_cons_zero]
          refine' wpAnyH_take (i := 7) ?h1x7r1k ?hsx7r1k ?hfx7r1k ?hrx7r1k ?hQx7r1k (Or.inl ⟨?hwx7r1k, ?hyx7r1k⟩) hS ?restx7r1k
          case h1x7r1k => (simp only [List.getElem?_toArray, List.getElem?_cons_succ, List.getElem?_cons_zero]; rfl)
          case hsx7r1k | hfx7r1k | hrx7r1k => kernel_rfl
          case hQx7r1k => exact fun _ _ _ h => h
          case hwx7r1k => rfl
          case hyx7r1k =>
            intro W hW
            go_simp
            try with_reducible rfl
          simp only [Act.put, List.setIfInBounds_toArray, List.set_cons_succ, List.set_cons_zero]
          refine' wpAnyH_take (i := 13) ?h1x13r1k ?hsx13r1k ?hfx13r1k ?hrx13r1k ?hQx13r1k (Or.inl ⟨?hwx13r1k, ?hyx13r1k⟩) hS ?restx13r1k
          case h1x13r1k => (simp only [List.getElem?_toArray, List.getElem?_cons_succ, List.getElem?_cons_zero]; rfl)
          case hsx13r1k | hfx13r1k | hrx13r1k => kernel_rfl
          case hQx13r1k => exact fun _ _ _ h => h
          case hwx13r1k => rfl
          case hyx13r1k =>
            intro W hW
            go_simp
            try with_reducible rfl
          simp only [Act.put, List.setIfInBounds_toArray, List.set_cons_succ, List.set_cons_zero]
          refine' wpAnyH_take (i := 8) ?h1x8r1k ?hsx8r1k ?hfx8r1k ?hrx8r1k ?hQx8r1k (Or.inl ⟨?hwx8r1k, ?hyx8r1k⟩) hS ?restx8r1k
          case h1x8r1k => (simp only [List.getElem?_toArray, List.getElem?_cons_succ, List.getElem?_cons_zero]; rfl)
          case hsx8r1k | hfx8r1k | hrx8r1k => kernel_rfl
          case hQx8r1k => exact fun _ _ _ h => h
          case hwx8r1k => rfl
          case hyx8r1k =>
            intro W hW
            go_simp
            try with_reducible rfl
          simp only [Act.put, List.setIfInBounds_toArray, List.set_cons_succ, List.set_cons_zero]
          refine' wpAnyH_take (i := 14) ?h1x14r1k ?hsx14r1k ?hfx14r1k ?hrx14r1k ?hQx14r1k (Or.inl ⟨?hwx14r1k, ?hyx14r1k⟩) hS ?restx14r1k
          case h1x14r1k => (simp only [List.getElem?_toArray, List.getElem?_cons_succ, List.getElem?_cons_zero]; rfl)
          case hsx14r1k | hfx14r1k | hrx14r1k => kernel_rfl
          case hQx14r1k => exact fun _ _ _ h => h
          case hwx14r1k => rfl
          case hyx14r1k =>
            intro W hW
            go_simp
            try with_reducible rfl
          simp only [Act.put, List.setIfInBounds_toArray, List.set_cons_succ, List.set_cons_zero]
          refine' wpAnyH_take (i := 9) ?h1x9r1k ?hsx9r1k ?hfx9r1k ?hrx9r1k ?hQx9r1k (Or.inl ⟨?hwx9r1k, ?hyx9r1k⟩) hS ?restx9r1k
          case h1x9r1k => (simp only [List.getElem?_toArray, List.getElem?_cons_succ, List.getElem?_cons_zero]; rfl)
          case hsx9r1k | hfx9r1k | hrx9r1k => kernel_rfl
          case hQx9r1k => exact fun _ _ _ h => h
          case hwx9r1k => rfl
          case hyx9r1k =>
            intro W hW
            have cx := (CP0.out.below hW).2
            go_simp
            try with_reducible rfl
          simp only [Act.put, List.setIfInBounds_toArray, List.set_cons_succ, List.set_cons_zero]
          refine' wpAnyH_take (i := 15) ?h1x15r1k ?hsx15r1k ?hfx15r1k ?hrx15r1k ?hQx15r1k (Or.inl ⟨?hwx15r1k, ?hyx15r1k⟩) hS ?restx15r1k
          case h1x15r1k => (simp only [List.getElem?_toArray, List.getElem?_cons_succ, List.getElem?_cons_zero]; rfl)
          case hsx15r1k | hfx15r1k | hrx15r1k => kernel_rfl
          case hQx15r1k => exact fun _ _ _ h => h
          case hwx15r1k => rfl
          case hyx15r1k =>
            intro W hW
            have cx := (CK0.out.below hW).2
            go_simp
            try with_reducible rfl
          simp only [Act.put, List.setIfInBounds_toArray, List.set_cons_succ, List.set_cons_zero]
          refine' wpAnyH_take (i := 16) ?h1x16r1k ?hsx16r1k ?hfx16r1k ?hrx16r1k ?hQx16r1k (Or.inl ⟨?hwx16r1k, ?hyx16r1k⟩) hS ?restx16r1k
          case h1x16r1k => (simp only [List.getElem?_toArray, List.getElem?_cons_succ, List.getElem?_cons_zero]; rfl)
          case hsx16r1k | hfx16r1k | hrx16r1k => kernel_rfl
          case hQx16r1k => exact fun _ _ _ h => h
          case hwx16r1k => rfl
          case hyx16r1k =>
            intro W hW
            go_simp
            try with_reducible rfl
          simp only [Act.put, List.setIfInBounds_toArray, List.set_cons_succ, List.set_cons_zero]
          refine' wpAnyH_take (i := 17) ?h1x17r1k ?hsx17r1k ?hfx17r1k ?hrx17r1k ?hQx17r1k (Or.inl ⟨?hwx17r1k, ?hyx17r1k⟩) hS ?restx17r1k
          case h1x17r1k => (simp only [List.getElem?_toArray, List.getElem?_cons_succ, List.getElem?_cons_zero]; rfl)
          case hsx17r1k | hfx17r1k | hrx17r1k => kernel_rfl
          case hQx17r1k => exact fun _ _ _ h => h
          case hwx17r1k => rfl
          case hyx17r1k =>
            intro W hW
            go_simp
            try with_reducible rfl
          simp only [Act.put, List.setIfInBounds_toArray, List.set_cons_succ, List.set_cons_zero]
          refine' wpAnyH_take (i := 18) ?h1x18r1k ?hsx18r1k ?hfx18r1k ?hrx18r1k ?hQx18r1k (Or.inl ⟨?hwx18r1k, ?hyx18r1k⟩) hS ?restx18r1k
          case h1x18r1k => (simp only [List.getElem?_toArray, List.getElem?_cons_succ, List.getElem?_cons_zero]; rfl)
          case hsx18r1k | hfx18r1k | hrx18r1k => kernel_rfl
          case hQx18r1k => exact fun _ _ _ h => h
          case hwx18r1k => rfl
          case hyx18r1k =>
            intro W hW
            go_simp
            try with_reducible rfl
          simp only [Act.put, List.setIfInBounds_toArray, List.set_cons_succ, List.set_cons_zero]
          refine' wpAnyH_take (i := 19) ?h1x19r1k ?hsx19r1k ?hfx19r1k ?hrx19r1k ?hQx19r1k (Or.inr ⟨?hwx19r1k, rfl⟩) hS ?restx19r1k
          case h1x19r1k => (simp only [List.getElem?_toArray, List.getElem?_cons_succ, List.getElem?_cons_zero]; rfl)
          case hsx19r1k | hfx19r1k | hrx19r1k => kernel_rfl
          case hQx19r1k => exact fun _ _ _ h => h
          case hwx19r1k => rfl
          simp only [Act.put, List.setIfInBounds_toArray, List.set_cons_succ, List.set_cons_zero]
          refine' wpAnyH_take (i := 20) ?h1x20r1k ?hsx20r1k ?hfx20r1k ?hrx20r1k ?hQx20r1k (Or.inr ⟨?hwx20r1k, rfl⟩) hS ?restx20r1k
          case h1x20r1k => (simp only [List.getElem?_toArray, List.getElem?_cons_succ, List.getElem?_cons_zero]; rfl)
          case hsx20r1k | hfx20r1k | hrx20r1k => kernel_rfl
          case hQx20r1k => exact fun _ _ _ h => h
          case hwx20r1k => rfl
          simp only [Act.put, List.setIfInBounds_toArray, List.set_cons_succ, List.set_cons_zero]
          refine' wpAnyH_take (i := 21) ?h1x21r1k ?hsx21r1k ?hfx21r1k ?hrx21r1k ?hQx21r1k (Or.inr ⟨?hwx21r1k, rfl⟩) hS ?restx21r1k
          case h1x21r1k => (simp only [List.getElem?_toArray, List.getElem?_cons_succ, List.getElem?_cons_zero]; rfl)
          case hsx21r1k | hfx21r1k | hrx21r1k => kernel_rfl
          case hQx21r1k => exact fun _ _ _ h => h
          case hwx21r1k => rfl
          simp only [Act.put, List.setIfInBounds_toArray, List.set_cons_succ, List.set_cons_zero]
          refine' wpAnyH_take (i := 22) ?h1x22r1k ?hsx22r1k ?hfx22r1k ?hrx22r1k ?hQx22r1k (Or.inr ⟨?hwx22r1k, rfl⟩) hS ?restx22r1k
          case h1x22r1k => (simp only [List.getElem?_toArray, List.getElem?_cons_succ, List.getElem?_cons_zero]; rfl)
          case hsx22r1k | hfx22r1k | hrx22r1k => kernel_rfl
          case hQx22r1k => exact fun _ _ _ h => h
          case hwx22r1k => rfl
          simp only [Act.put, List.setIfInBounds_toArray, List.set_cons_succ, List.set_cons_zero]
          refine' wpAnyH_take (i := 23) ?h1x23r1k ?hsx23r1k ?hfx23r1k ?hrx23r1k ?hQx23r1k (Or.inr ⟨?hwx23r1k, rfl⟩) hS ?restx23r1k
          case h1x23r1k => (simp only [List.getElem?_toArray, List.getElem?_cons_succ, List.getElem?_cons_zero]; rfl)
          case hsx23r1k | hfx23r1k | hrx23r1k => kernel_rfl
          case hQx23r1k => exact fun _ _ _ h => h
          case hwx23r1k => rfl
          simp only [Act.put, List.setIfInBounds_toArray, List.set_cons_succ, List.set_cons_zero]
          refine' wpAnyH_take (i := 24) ?h1x24r1k ?hsx24r1k ?hfx24r1k ?hrx24r1k ?hQx24r1k (Or.inr ⟨?hwx24r1k, rfl⟩) hS ?restx24r1k
          case h1x24r1k => (simp only [List.getElem?_toArray, List.getElem?_cons_succ, List.getElem?_cons_zero]; rfl)
          case hsx24r1k | hfx24r1k | hrx24r1k => kernel_rfl
          case hQx24r1k => exact fun _ _ _ h => h
          case hwx24r1k => rfl
          simp only [Act.put, List.setIfInBounds_toArray, List.set_cons_succ, List.set_cons_zero]
          refine' wpAnyH_take (i := 25) ?h1x25r1k ?hsx25r1k ?hfx25r1k ?hrx25r1k ?hQx25r1k (Or.inr ⟨?hwx25r1k, rfl⟩) hS ?restx25r1k
          case h1x25r1k => (simp only [List.getElem?_toArray, List.getElem?_cons_succ, List.getElem?_cons_zero]; rfl)
          case hsx25r1k | hfx25r1k | hrx25r1k => kernel_rfl
          case hQx25r1k => exact fun _ _ _ h => h
          case hwx25r1k => rfl
          simp only [Act.put, List.setIfInBounds_toArray, List.set_cons_succ, List.set_cons_zero]
          refine' wpAnyH_take (i := 26) ?h1x26r1k ?hsx26r1k ?hfx26r1k ?hrx26r1k ?hQx26r1k (Or.inr ⟨?hwx26r1k, rfl⟩) hS ?restx26r1k
          case h1x26r1k => (simp only [List.getElem?_toArray, List.getElem?_cons_succ, List.getElem?_cons_zero]; rfl)
          case hsx26r1k | hfx26r1k | hrx26r1k => kernel_rfl
          case hQx26r1k => exact fun _ _ _ h => h
          case hwx26r1k => rfl
          simp only [Act.put, List.setIfInBounds_toArray, List.set_cons_succ, List.set_cons_zero]
          refine' wpAnyH_take (i := 27) ?h1x27r1k ?hsx27r1k ?hfx27r1k ?hrx27r1k ?hQx27r1k (Or.inr ⟨?hwx27r1k, rfl⟩) hS ?restx27r1k
          case h1x27r1k => (simp only [List.getElem?_toArray, List.getElem?_cons_succ, List.getElem?_cons_zero]; rfl)
          case hsx27r1k | hfx27r1k | hrx27r1k => kernel_rfl
          case hQx27r1k => exact fun _ _ _ h => h
          case hwx27r1k => rfl
          simp only [Act.put, List.setIfInBounds_toArray, List.set_cons_succ, List.set_cons_zero]
          refine' wpAnyH_take (i := 28) ?h1x28r1k ?hsx28r1k ?hfx28r1k ?hrx28r1k ?hQx28r1k (Or.inr ⟨?hwx28r1k, rfl⟩) hS ?restx28r1k
          case h1x28r1k => (simp only [List.getElem?_toArray, List.getElem?_cons_succ, List.getElem?_cons_zero]; rfl)
          case hsx28r1k | hfx28r1k | hrx28r1k => kernel_rfl
          case hQx28r1k => exact fun _ _ _ h => h
          case hwx28r1k => rfl
          simp only [Act.put, List.setIfInBounds_toArray, List.set_cons_succ, List.set_cons_zero]
          refine' wpAnyH_take (i := 29) ?h1x29r1k ?hsx29r1k ?hfx29r1k ?hrx29r1k ?hQx29r1k (Or.inr ⟨?hwx29r1k, rfl⟩) hS ?restx29r1k
          case h1x29r1k => (simp only [List.getElem?_toArray, List.getElem?_cons_succ, List.getElem?_cons_zero]; rfl)
          case hsx29r1k | hfx29r1k | hrx29r1k => kernel_rfl
          case hQx29r1k => exact fun _ _ _ h => h
          case hwx29r1k => rfl
          simp only [Act.put, List.setIfInBounds_toArray, List.set_cons_succ, List.set_cons_zero]
          refine' wpAnyH_take (i := 30) ?h1x30r1k ?hsx30r1k ?hfx30r1k ?hrx30r1k ?hQx30r1k (Or.inl ⟨?hwx30r1k, ?hyx30r1k⟩) hS ?restx30r1k
          case h1x30r1k => (simp only [List.getElem?_toArray, List.getElem?_cons_succ, List.getElem?_cons_zero]; rfl)
          case hsx30r1k | hfx30r1k | hrx30r1k => kernel_rfl
          case hQx30r1k => exact fun _ _ _ h => h
          case hwx30r1k => rfl
          case hyx30r1k =>
            intro W hW
            go_simp
            try with_reducible rfl
          simp only [Act.put, List.setIfInBounds_toArray, List.set_cons_succ, List.set_cons_zero]
          refine wpAnyH_done (by kernel_rfl) ?_ _
          have BE := Lib.hid (B1.out.trans ((HB.out.trans (hS.mono HB.out.size)).mono B1.out.size))
          clear hS
          go_wp2_with fail
          go_ret
          exact ⟨by rw [NO.out _ HLT.out BAD.out]; rfl, BE.out⟩
    · have hge : ¬ (i : Int) < (L : Int) := by omega
      obtain rfl : i = L := by omega
      have RES := Lib.hid (EN.out HALL.out)
      have FB := Lib.hid (B1.out.trans (HB.out.mono B1.out.size))
      rw [EB.out] at RES
      by_cases q1 : 1 ≤ i
      · have q1i : (1 : Int) ≤ (i : Int) := by omega
        by_cases q2 : i ≤ 9
        · have q2i : (i : Int) ≤ 9 := by omega
          have RR : Hid (rightD x = true) := by show _ = _; rw [RES.out, decide_eq_true q1, decide_eq_true q2]; rfl
          clear q1 q2
          go_wp2_with fail
          go_ret
          exact ⟨by rw [RR.out]; rfl, FB.out⟩
        · have q2i : ¬ (i : Int) ≤ 9 := by omega
          have RR : Hid (rightD x = false) := by show _ = _; rw [RES.out, decide_eq_false q2, Bool.and_false]
          clear q1 q2
          go_wp2_with fail
          go_ret
          exact ⟨by rw [RR.out]; rfl, FB.out⟩
      · have q1i : ¬ (1 : Int) ≤ (i : Int) := by omega
        have RR : Hid (rightD x = false) := by show _ = _; rw [RES.out, decide_eq_false q1, Bool.false_and]
        clear q1
        go_wp2_with fail
        go_ret
        exact ⟨by rw [RR.out]; rfl, FB.out⟩
set_option maxRecDepth 100000 in
set_option maxHeartbeats 16000000 in
theorem right_false (O : Array Value) (x : DN) (w : World) (hv : DM w (.agg O) x) (hlf : x.leaf = false) (hm : x.l.length ≤ 100) : Calls Try.prog 11 #[.agg O] w fun e w' => e = .returned (.bool (rightD x)) ∧ Below w.heap.size w w' := by
  obtain ⟨V, e, hp⟩ := hv
  injection e with e
  obtain ⟨xa, ca, rfl, _, _⟩ := hp.form
  have O0 : Hid (O[0]? = some (.bool false)) := by show _ = _; rw [e, hlf]; rfl
  have O1 : Hid (O[1]? = some (.slice xa x.l.length ca)) := by show _ = _; rw [e]; rfl
  obtain ⟨W1, hW1⟩ : ∃ W1, W1 = w.alloc (.cells O 32) := ⟨_, rfl⟩
  have b1 : Below w.heap.size w W1 := by rw [hW1]; exact (Below.refl _ _).alloc (Nat.le_refl _) _
  have G1 : Hid (W1.heap[w.heap.size]? = some (.cells O 32 (0, 0))) := by show _ = _; rw [hW1]; exact heap_alloc_new w _
  have PP := Lib.hid hp
  have NO := Lib.hid (fun i (h : i < x.l.length) (k : gdD x i = false) => rightD_no h k)
  have EN := Lib.hid (@rightD_end x)
  have GD : Hid (∀ i, gdD x i = ((decide (i = 0) || decide (keyD x.l (i - 1) < keyD x.l i)) && decide ((bytD x.l i).length = 36))) := fun i => by unfold gdD; rw [hlf]; rfl
  have EB : Hid (∀ n : Nat, (decide ((if x.leaf then 1 else 2) ≤ n) && decide (n ≤ if x.leaf then 9 else 11)) = (decide (2 ≤ n) && decide (n ≤ 11))) := fun n => by rw [hlf]; rfl
  have B1 := Lib.hid b1
  have HW1 := Lib.hid hW1
  have hL : (x.l.length : Int) ≤ 100 := by omega
  have cc := (cell_row G1.out 0).trans O0.out
  clear hp e hW1 b1 hlf
  obtain ⟨L, hLL⟩ : ∃ L, L = x.l.length := ⟨_, rfl⟩
  rw [← hLL] at O1 NO EN hm hL
  have HLL := Lib.hid hLL
  clear hLL
  go_enter Try.func11, Try.ntmps11
  go_upto_region 1 with (fail)
  rw [← HW1.out]
  go_upto_region 4 with (fail)
  clear cc
  go_wp2_with fail
  refine (show Code.wp _ _ _ _ _ from ?_)
  go_loopw [5] (fun v5 wr => ∃ i : Nat, i ≤ L ∧ v5 = .int .i64 (i : Int) ∧ (∀ j, j < i → gdD x j = true) ∧ Below W1.heap.size W1 wr) (fun v5 _ => L - (intOf v5).toNat)
  case atStart => exact ⟨0, by omega, rfl, fun j h => by omega, Below.refl _ _⟩
  case round =>
    obtain ⟨i, hi, rfl, hall, hb⟩ := hrel
    have HALL := Lib.hid hall
    have HB := Lib.hid hb
    have GR := Lib.hid ((hb.block _ (blk_lt G1.out)).trans G1.out)
    have cc1 := (cell_row GR.out 1).trans O1.out
    clear hall hb
    by_cases hlt : i < L
    · have hii : (i : Int) < (L : Int) := by omega
      have HLT := Lib.hid hlt
      have BW := Lib.hid (B1.out.trans (HB.out.mono B1.out.size))
      have PW := Lib.hid (PP.out.below BW.out)
      obtain ⟨b, o, u, rfl, ck, cu, su, kb, _⟩ := PW.out.at i (by rw [← HLL.out]; exact hlt)
      obtain ⟨ux, uc, rfl, _⟩ := su.form
      obtain ⟨key, hkey⟩ : ∃ key, key = keyD x.l i := ⟨_, rfl⟩
      obtain ⟨bl, hbl⟩ : ∃ bl, bl = (bytD x.l i).length := ⟨_, rfl⟩
      have GDI := Lib.hid (GD.out i)
      rw [← hkey] at ck GDI
      rw [← hbl] at cu GDI
      have CK := Lib.hid ck
      have CU := Lib.hid cu
      have HKEY := Lib.hid hkey
      have blm : (bl : Int) ≤ 9223372036854775807 := by rw [hbl]; omega
      clear hlt ck cu su kb hkey hbl
      go_upto_region 7 with (fail)
      clear cc1
      have NXT : Hid (gdD x i = true → ∀ j, j < i + 1 → gdD x j = true) := fun h j hj => by
        by_cases e : j < i
        · exact HALL.out j e
        · rw [show j = i by omega]; exact h
      by_cases h0 : i = 0
      · subst h0
        have CU : Hid (CellF wr b (o + 1) (.slice ux bl uc)) := by have := CU.out; rw [Nat.zero_mul, Nat.add_zero] at this; exact this
        have hpos : 0 < L := HLT.out
        by_cases hb2 : bl = 36
        · subst hb2
          have YES : Hid (gdD x 0 = true) := by show _ = _; rw [GDI.out]; rfl
          have GR0 := GR
          have CK0 := CK
          have CU0 := CU
          refine wp_region_held_drew (S := fun W => Below wr.heap.size wr W) (by kernel_rfl) ((Below.refl _ _).drew) (fun hS => ?_)
          have hb0 : Below wr.heap.size wr wr.drew := (Below.refl _ _).drew
          clear hb0 
          generalize wr.drew = Wr0ys at hS  ⊢
          refine' wpAnyH_take (i := 0) ?h1x0r0y ?hsx0r0y ?hfx0r0y ?hrx0r0y ?hQx0r0y (Or.inl ⟨?hwx0r0y, ?hyx0r0y⟩) hS ?restx0r0y
          case h1x0r0y => (simp only [List.getElem?_toArray, List.getElem?_cons_zero]; rfl)
          case hsx0r0y | hfx0r0y | hrx0r0y => kernel_rfl
          case hQx0r0y => exact fun _ _ _ h => h
          case hwx0r0y => rfl
          case hyx0r0y =>
            intro W hW
            go_simp
            try with_reducible rfl
          simp only [Act.put, List.setIfInBounds_toArray, List.set_cons_succ, List.set_cons_zero]
          refine' wpAnyH_take (i := 1) ?h1x1r0y ?hsx1r0y ?hfx1r0y ?hrx1r0y ?hQx1r0y (Or.inl ⟨?hwx1r0y, ?hyx1r0y⟩) hS ?restx1r0y
          case h1x1r0y => (simp only [List.getElem?_toArray, List.getElem?_cons_succ, List.getElem?_cons_zero]; rfl)
          case hsx1r0y | hfx1r0y | hrx1r0y => kernel_rfl
          case hQx1r0y => exact fun _ _ _ h => h
          case hwx1r0y => rfl
          case hyx1r0y =>
            intro W hW
            go_simp
            try with_reducible rfl
          simp only [Act.put, List.setIfInBounds_toArray, List.set_cons_succ, List.set_cons_zero]
          refine' wpAnyH_take (i := 2) ?h1x2r0y ?hsx2r0y ?hfx2r0y ?hrx2r0y ?hQx2r0y (Or.inl ⟨?hwx2r0y, ?hyx2r0y⟩) hS ?restx2r0y
          case h1x2r0y => (simp only [List.getElem?_toArray, List.getElem?_cons_succ, List.getElem?_cons_zero]; rfl)
          case hsx2r0y | hfx2r0y | hrx2r0y => kernel_rfl
          case hQx2r0y => exact fun _ _ _ h => h
          case hwx2r0y => rfl
          case hyx2r0y =>
            intro W hW
            go_simp
            try with_reducible rfl
          simp only [Act.put, List.setIfInBounds_toArray, List.set_cons_succ, List.set_cons_zero]
          refine' wpAnyH_take (i := 3) ?h1x3r0y ?hsx3r0y ?hfx3r0y ?hrx3r0y ?hQx3r0y (Or.inr ⟨?hwx3r0y, rfl⟩) hS ?restx3r0y
          case h1x3r0y => (simp only [List.getElem?_toArray, List.getElem?_cons_succ, List.getElem?_cons_zero]; rfl)
          case hsx3r0y | hfx3r0y | hrx3r0y => kernel_rfl
          case hQx3r0y => exact fun _ _ _ h => h
          case hwx3r0y => rfl
          simp only [Act.put, List.setIfInBounds_toArray, List.set_cons_succ, List.set_cons_zero]
          refine' wpAnyH_take (i := 4) ?h1x4r0y ?hsx4r0y ?hfx4r0y ?hrx4r0y ?hQx4r0y (Or.inr ⟨?hwx4r0y, rfl⟩) hS ?restx4r0y
          case h1x4r0y => (simp only [List.getElem?_toArray, List.getElem?_cons_succ, List.getElem?_cons_zero]; rfl)
          case hsx4r0y | hfx4r0y | hrx4r0y => kernel_rfl
          case hQx4r0y => exact fun _ _ _ h => h
          case hwx4r0y => rfl
          simp only [Act.put, List.setIfInBounds_toArray, List.set_cons_succ, List.set_cons_zero]
          refine' wpAnyH_take (i := 5) ?h1x5r0y ?hsx5r0y ?hfx5r0y ?hrx5r0y ?hQx5r0y (Or.inr ⟨?hwx5r0y, rfl⟩) hS ?restx5r0y
          case h1x5r0y => (simp only [List.getElem?_toArray, List.getElem?_cons_succ, List.getElem?_cons_zero]; rfl)
          case hsx5r0y | hfx5r0y | hrx5r0y => kernel_rfl
          case hQx5r0y => exact fun _ _ _ h => h
          case hwx5r0y => rfl
          simp only [Act.put, List.setIfInBounds_toArray, List.set_cons_succ, List.set_cons_zero]
          refine' wpAnyH_take (i := 6) ?h1x6r0y ?hsx6r0y ?hfx6r0y ?hrx6r0y ?hQx6r0y (Or.inr ⟨?hwx6r0y, rfl⟩) hS ?restx6r0y
          case h1x6r0y => (simp only [List.getElem?_toArray, List.getElem?_cons_succ, List.getElem?_cons_zero]; rfl)
          case hsx6r0y | hfx6r0y | hrx6r0y => kernel_rfl
          case hQx6r0y => exact fun _ _ _ h => h
          case hwx6r0y => rfl
          simp only [Act.put, List.setIfInBounds_toArray, List.set_cons_succ, List.set_cons_zero]
          refine' wpAnyH_take (i := 7) ?h1x7r0y ?hsx7r0y ?hfx7r0y ?hrx7r0y ?hQx7r0y (Or.inr ⟨?hwx7r0y, rfl⟩) hS ?restx7r0y
          case h1x7r0y => (simp only [List.getElem?_toArray, List.getElem?_cons_succ, List.getElem?_cons_zero]; rfl)
          case hsx7r0y | hfx7r0y | hrx7r0y => kernel_rfl
          case hQx7r0y => exact fun _ _ _ h => h
          case hwx7r0y => rfl
          simp only [Act.put, List.setIfInBounds_toArray, List.set_cons_succ, List.set_cons_zero]
          refine' wpAnyH_take (i := 8) ?h1x8r0y ?hsx8r0y ?hfx8r0y ?hrx8r0y ?hQx8r0y (Or.inr ⟨?hwx8r0y, rfl⟩) hS ?restx8r0y
          case h1x8r0y => (simp only [List.getElem?_toArray, List.getElem?_cons_succ, List.getElem?_cons_zero]; rfl)
          case hsx8r0y | hfx8r0y | hrx8r0y => kernel_rfl
          case hQx8r0y => exact fun _ _ _ h => h
          case hwx8r0y => rfl
          simp only [Act.put, List.setIfInBounds_toArray, List.set_cons_succ, List.set_cons_zero]
          refine' wpAnyH_take (i := 9) ?h1x9r0y ?hsx9r0y ?hfx9r0y ?hrx9r0y ?hQx9r0y (Or.inr ⟨?hwx9r0y, rfl⟩) hS ?restx9r0y
          case h1x9r0y => (simp only [List.getElem?_toArray, List.getElem?_cons_succ, List.getElem?_cons_zero]; rfl)
          case hsx9r0y | hfx9r0y | hrx9r0y => kernel_rfl
          case hQx9r0y => exact fun _ _ _ h => h
          case hwx9r0y => rfl
          simp only [Act.put, List.setIfInBounds_toArray, List.set_cons_succ, List.set_cons_zero]
          refine' wpAnyH_take (i := 10) ?h1x10r0y ?hsx10r0y ?hfx10r0y ?hrx10r0y ?hQx10r0y (Or.inr ⟨?hwx10r0y, rfl⟩) hS ?restx10r0y
          case h1x10r0y => (simp only [List.getElem?_toArray, List.getElem?_cons_succ, List.getElem?_cons_zero]; rfl)
          case hsx10r0y | hfx10r0y | hrx10r0y => kernel_rfl
          case hQx10r0y => exact fun _ _ _ h => h
          case hwx10r0y => rfl
          simp only [Act.put, List.setIfInBounds_toArray, List.set_cons_succ, List.set_cons_zero]
          refine' wpAnyH_take (i := 11) ?h1x11r0y ?hsx11r0y ?hfx11r0y ?hrx11r0y ?hQx11r0y (Or.inr ⟨?hwx11r0y, rfl⟩) hS ?restx11r0y
          case h1x11r0y => (simp only [List.getElem?_toArray, List.getElem?_cons_succ, List.getElem?_cons_zero]; rfl)
          case hsx11r0y | hfx11r0y | hrx11r0y => kernel_rfl
          case hQx11r0y => exact fun _ _ _ h => h
          case hwx11r0y => rfl
          simp only [Act.put, List.setIfInBounds_toArray, List.set_cons_succ, List.set_cons_zero]
          refine' wpAnyH_take (i := 12) ?h1x12r0y ?hsx12r0y ?hfx12r0y ?hrx12r0y ?hQx12r0y (Or.inr ⟨?hwx12r0y, rfl⟩) hS ?restx12r0y
          case h1x12r0y => (simp only [List.getElem?_toArray, List.getElem?_cons_succ, List.getElem?_cons_zero]; rfl)
          case hsx12r0y | hfx12r0y | hrx12r0y => kernel_rfl
          case hQx12r0y => exact fun _ _ _ h => h
          case hwx12r0y => rfl
          simp only [Act.put, List.setIfInBounds_toArray, List.set_cons_succ, List.set_cons_zero]
          refine' wpAnyH_take (i := 13) ?h1x13r0y ?hsx13r0y ?hfx13r0y ?hrx13r0y ?hQx13r0y (Or.inr ⟨?hwx13r0y, rfl⟩) hS ?restx13r0y
          case h1x13r0y => (simp only [List.getElem?_toArray, List.getElem?_cons_succ, List.getElem?_cons_zero]; rfl)
          case hsx13r0y | hfx13r0y | hrx13r0y => kernel_rfl
          case hQx13r0y => exact fun _ _ _ h => h
          case hwx13r0y => rfl
          simp only [Act.put, List.setIfInBounds_toArray, List.set_cons_succ, List.set_cons_zero]
          refine' wpAnyH_take (i := 14) ?h1x14r0y ?hsx14r0y ?hfx14r0y ?hrx14r0y ?hQx14r0y (Or.inr ⟨?hwx14r0y, rfl⟩) hS ?restx14r0y
          case h1x14r0y => (simp only [List.getElem?_toArray, List.getElem?_cons_succ, List.getElem?_cons_zero]; rfl)
          case hsx14r0y | hfx14r0y | hrx14r0y => kernel_rfl
          case hQx14r0y => exact fun _ _ _ h => h
          case hwx14r0y => rfl
          simp only [Act.put, List.setIfInBounds_toArray, List.set_cons_succ, List.set_cons_zero]
          refine' wpAnyH_take (i := 15) ?h1x15r0y ?hsx15r0y ?hfx15r0y ?hrx15r0y ?hQx15r0y (Or.inr ⟨?hwx15r0y, rfl⟩) hS ?restx15r0y
          case h1x15r0y => (simp only [List.getElem?_toArray, List.getElem?_cons_succ, List.getElem?_cons_zero]; rfl)
          case hsx15r0y | hfx15r0y | hrx15r0y => kernel_rfl
          case hQx15r0y => exact fun _ _ _ h => h
          case hwx15r0y => rfl
          simp only [Act.put, List.setIfInBounds_toArray, List.set_cons_succ, List.set_cons_zero]
          refine' wpAnyH_take (i := 16) ?h1x16r0y ?hsx16r0y ?hfx16r0y ?hrx16r0y ?hQx16r0y (Or.inr ⟨?hwx16r0y, rfl⟩) hS ?restx16r0y
          case h1x16r0y => (simp only [List.getElem?_toArray, List.getElem?_cons_succ, List.getElem?_cons_zero]; rfl)
          case hsx16r0y | hfx16r0y | hrx16r0y => kernel_rfl
          case hQx16r0y => exact fun _ _ _ h => h
          case hwx16r0y => rfl
          simp only [Act.put, List.setIfInBounds_toArray, List.set_cons_succ, List.set_cons_zero]
          refine' wpAnyH_take (i := 17) ?h1x17r0y ?hsx17r0y ?hfx17r0y ?hrx17r0y ?hQx17r0y (Or.inl ⟨?hwx17r0y, ?hyx17r0y⟩) hS ?restx17r0y
          case h1x17r0y => (simp only [List.getElem?_toArray, List.getElem?_cons_succ, List.getElem?_cons_zero]; rfl)
          case hsx17r0y | hfx17r0y | hrx17r0y => kernel_rfl
          case hQx17r0y => exact fun _ _ _ h => h
          case hwx17r0y => rfl
          case hyx17r0y =>
            intro W hW
            go_simp
            try with_reducible rfl
          simp only [Act.put, List.setIfInBounds_toArray, List.set_cons_succ, List.set_cons_zero]
          refine' wpAnyH_take (i := 18) ?h1x18r0y ?hsx18r0y ?hfx18r0y ?hrx18r0y ?hQx18r0y (Or.inl ⟨?hwx18r0y, ?hyx18r0y⟩) hS ?restx18r0y
          case h1x18r0y => (simp only [List.getElem?_toArray, List.getElem?_cons_succ, List.getElem?_cons_zero]; rfl)
          case hsx18r0y | hfx18r0y | hrx18r0y => kernel_rfl
          case hQx18r0y => exact fun _ _ _ h => h
          case hwx18r0y => rfl
          case hyx18r0y =>
            intro W hW
            go_simp
            try with_reducible rfl
          simp only [Act.put, List.setIfInBounds_toArray, List.set_cons_succ, List.set_cons_zero]
          refine' wpAnyH_take (i := 19) ?h1x19r0y ?hsx19r0y ?hfx19r0y ?hrx19r0y ?hQx19r0y (Or.inl ⟨?hwx19r0y, ?hyx19r0y⟩) hS ?restx19r0y
          case h1x19r0y => (simp only [List.getElem?_toArray, List.getElem?_cons_succ, List.getElem?_cons_zero]; rfl)
          case hsx19r0y | hfx19r0y | hrx19r0y => kernel_rfl
          case hQx19r0y => exact fun _ _ _ h => h
          case hwx19r0y => rfl
          case hyx19r0y =>
            intro W hW
            go_simp
            try with_reducible rfl
          simp only [Act.put, List.setIfInBounds_toArray, List.set_cons_succ, List.set_cons_zero]
          refine' wpAnyH_take (i := 21) ?h1x21r0y ?hsx21r0y ?hfx21r0y ?hrx21r0y ?hQx21r0y (Or.inl ⟨?hwx21r0y, ?hyx21r0y⟩) hS ?restx21r0y
          case h1x21r0y => (simp only [List.getElem?_toArray, List.getElem?_cons_succ, List.getElem?_cons_zero]; rfl)
          case hsx21r0y | hfx21r0y | hrx21r0y => kernel_rfl
          case hQx21r0y => exact fun _ _ _ h => h
          case hwx21r0y => rfl
          case hyx21r0y =>
            intro W hW
            go_simp
            try with_reducible rfl
          simp only [Act.put, List.setIfInBounds_toArray, List.set_cons_succ, List.set_cons_zero]
          refine' wpAnyH_take (i := 26) ?h1x26r0y ?hsx26r0y ?hfx26r0y ?hrx26r0y ?hQx26r0y (Or.inl ⟨?hwx26r0y, ?hyx26r0y⟩) hS ?restx26r0y
          case h1x26r0y => (simp only [List.getElem?_toArray, List.getElem?_cons_succ, List.getElem?_cons_zero]; rfl)
          case hsx26r0y | hfx26r0y | hrx26r0y => kernel_rfl
          case hQx26r0y => exact fun _ _ _ h => h
          case hwx26r0y => rfl
          case hyx26r0y =>
            intro W hW
            go_simp
            try with_reducible rfl
          simp only [Act.put, List.setIfInBounds_toArray, List.set_cons_succ, List.set_cons_zero]
          refine' wpAnyH_take (i := 20) ?h1x20r0y ?hsx20r0y ?hfx20r0y ?hrx20r0y ?hQx20r0y (Or.inl ⟨?hwx20r0y, ?hyx20r0y⟩) hS ?restx20r0y
          case h1x20r0y => (simp only [List.getElem?_toArray, List.getElem?_cons_succ, List.getElem?_cons_zero]; rfl)
          case hsx20r0y | hfx20r0y | hrx20r0y => kernel_rfl
          case hQx20r0y => exact fun _ _ _ h => h
          case hwx20r0y => rfl
          case hyx20r0y =>
            intro W hW
            have cx := (hW.cell (p := ⟨w.heap.size, 1, none⟩) (blk_lt GR0.out)).trans ((cell_row GR0.out 1).trans O1.out)
            go_simp
            try with_reducible rfl
          simp only [Act.put, List.setIfInBounds_toArray, List.set_cons_succ, List.set_cons_zero]
          refine' wpAnyH_take (i := 27) ?h1x27r0y ?hsx27r0y ?hfx27r0y ?hrx27r0y ?hQx27r0y (Or.inl ⟨?hwx27r0y, ?hyx27r0y⟩) hS ?restx27r0y
          case h1x27r0y => (simp only [List.getElem?_toArray, List.getElem?_cons_succ, List.getElem?_cons_zero]; rfl)
          case hsx27r0y | hfx27r0y | hrx27r0y => kernel_rfl
          case hQx27r0y => exact fun _ _ _ h => h
          case hwx27r0y => rfl
          case hyx27r0y =>
            intro W hW
            have cx := (hW.cell (p := ⟨w.heap.size, 0, none⟩) (blk_lt GR0.out)).trans ((cell_row GR0.out 0).trans O0.out)
            go_simp
            try with_reducible rfl
          simp only [Act.put, List.setIfInBounds_toArray, List.set_cons_succ, List.set_cons_zero]
          refine' wpAnyH_take (i := 22) ?h1x22r0y ?hsx22r0y ?hfx22r0y ?hrx22r0y ?hQx22r0y (Or.inl ⟨?hwx22r0y, ?hyx22r0y⟩) hS ?restx22r0y
          case h1x22r0y => (simp only [List.getElem?_toArray, List.getElem?_cons_succ, List.getElem?_cons_zero]; rfl)
          case hsx22r0y | hfx22r0y | hrx22r0y => kernel_rfl
          case hQx22r0y => exact fun _ _ _ h => h
          case hwx22r0y => rfl
          case hyx22r0y =>
            intro W hW
            go_simp
            try with_reducible rfl
          simp only [Act.put, List.setIfInBounds_toArray, List.set_cons_succ, List.set_cons_zero]
          refine' wpAnyH_take (i := 23) ?h1x23r0y ?hsx23r0y ?hfx23r0y ?hrx23r0y ?hQx23r0y (Or.inl ⟨?hwx23r0y, ?hyx23r0y⟩) hS ?restx23r0y
          case h1x23r0y => (simp only [List.getElem?_toArray, List.getElem?_cons_succ, List.getElem?_cons_zero]; rfl)
          case hsx23r0y | hfx23r0y | hrx23r0y => kernel_rfl
          case hQx23r0y => exact fun _ _ _ h => h
          case hwx23r0y => rfl
          case hyx23r0y =>
            intro W hW
            go_simp
            try with_reducible rfl
          simp only [Act.put, List.setIfInBounds_toArray, List.set_cons_succ, List.set_cons_zero]
          refine' wpAnyH_take (i := 24) ?h1x24r0y ?hsx24r0y ?hfx24r0y ?hrx24r0y ?hQx24r0y (Or.inl ⟨?hwx24r0y, ?hyx24r0y⟩) hS ?restx24r0y
          case h1x24r0y => (simp only [List.getElem?_toArray, List.getElem?_cons_succ, List.getElem?_cons_zero]; rfl)
          case hsx24r0y | hfx24r0y | hrx24r0y => kernel_rfl
          case hQx24r0y => exact fun _ _ _ h => h
          case hwx24r0y => rfl
          case hyx24r0y =>
            intro W hW
            have cx := (CU0.out.below hW).2
            go_simp
            try with_reducible rfl
          simp only [Act.put, List.setIfInBounds_toArray, List.set_cons_succ, List.set_cons_zero]
          refine' wpAnyH_take (i := 25) ?h1x25r0y ?hsx25r0y ?hfx25r0y ?hrx25r0y ?hQx25r0y (Or.inl ⟨?hwx25r0y, ?hyx25r0y⟩) hS ?restx25r0y
          case h1x25r0y => (simp only [List.getElem?_toArray, List.getElem?_cons_succ, List.getElem?_cons_zero]; rfl)
          case hsx25r0y | hfx25r0y | hrx25r0y => kernel_rfl
          case hQx25r0y => exact fun _ _ _ h => h
          case hwx25r0y => rfl
          case hyx25r0y =>
            intro W hW
            go_simp
            try with_reducible rfl
          simp only [Act.put, List.setIfInBounds_toArray, List.set_cons_succ, List.set_cons_zero]
          refine wpAnyH_ready (rs := [28]) (by kernel_rfl) (by simp) ?_
          refine' (AllReadyH.cons ?hoc28r0y (fun K hK => ?stc28r0y) AllReadyH.nil)
          case hoc28r0y => (simp only [List.getElem?_toArray, List.getElem?_cons_succ, List.getElem?_cons_zero]; rfl)
          go_simp
          refine (size_false Wr0ys).mono ?_
          rintro e Wr0yx28 ⟨rfl, hb⟩
          go_wp2_with fail
          refine hK.out _ _ (hS.trans (hb.mono hS.size)) (fun hHeld => ?_)
          clear hK K
          try simp only [Act.put, List.setIfInBounds_toArray, List.set_cons_succ, List.set_cons_zero]
          clear hS
          have hS := hHeld
          clear hHeld
          clear hb
          refine' wpAnyH_take (i := 29) ?h1x29r0yx28 ?hsx29r0yx28 ?hfx29r0yx28 ?hrx29r0yx28 ?hQx29r0yx28 (Or.inl ⟨?hwx29r0yx28, ?hyx29r0yx28⟩) hS ?restx29r0yx28
          case h1x29r0yx28 => (simp only [List.getElem?_toArray, List.getElem?_cons_succ, List.getElem?_cons_zero]; rfl)
          case hsx29r0yx28 | hfx29r0yx28 | hrx29r0yx28 => kernel_rfl
          case hQx29r0yx28 => exact fun _ _ _ h => h
          case hwx29r0yx28 => rfl
          case hyx29r0yx28 =>
            intro W hW
            go_simp
            try with_reducible rfl
          simp only [Act.put, List.setIfInBounds_toArray, List.set_cons_succ, List.set_cons_zero]
          refine' wpAnyH_take (i := 30) ?h1x30r0yx28 ?hsx30r0yx28 ?hfx30r0yx28 ?hrx30r0yx28 ?hQx30r0yx28 (Or.inl ⟨?hwx30r0yx28, ?hyx30r0yx28⟩) hS ?restx30r0yx28
          case h1x30r0yx28 => (simp only [List.getElem?_toArray, List.getElem?_cons_succ, List.getElem?_cons_zero]; rfl)
          case hsx30r0yx28 | hfx30r0yx28 | hrx30r0yx28 => kernel_rfl
          case hQx30r0yx28 => exact fun _ _ _ h => h
          case hwx30r0yx28 => rfl
          case hyx30r0yx28 =>
            intro W hW
            go_simp
            try with_reducible rfl
          simp only [Act.put, List.setIfInBounds_toArray, List.set_cons_succ, List.set_cons_zero]
          refine wpAnyH_done (by kernel_rfl) ?_ _
          have BE := Lib.hid (HB.out.trans (hS.mono HB.out.size))
          clear hS
          go_wp2_with fail
          go_roundw
          case rel => exact ⟨1, HLT.out, rfl, NXT.out YES.out, BE.out⟩
          case measure =>
            have := HLT.out
            show L - (1 : Int).toNat < L - (0 : Int).toNat
            omega
        · have hne : ((bl : Int) != 36) = true := by simp; omega
          have BAD : Hid (gdD x 0 = false) := by show _ = _; rw [GDI.out]; simp [hb2]
          clear hb2
          have GR0 := GR
          have CK0 := CK
          have CU0 := CU
          refine wp_region_held_drew (S := fun W => Below wr.heap.size wr W) (by kernel_rfl) ((Below.refl _ _).drew) (fun hS => ?_)
          have hb0 : Below wr.heap.size wr wr.drew := (Below.refl _ _).drew
          clear hb0 
          generalize wr.drew = Wr0ns at hS  ⊢
          refine' wpAnyH_take (i := 0) ?h1x0r0n ?hsx0r0n ?hfx0r0n ?hrx0r0n ?hQx0r0n (Or.inl ⟨?hwx0r0n, ?hyx0r0n⟩) hS ?restx0r0n
          case h1x0r0n => (simp only [List.getElem?_toArray, List.getElem?_cons_zero]; rfl)
          case hsx0r0n | hfx0r0n | hrx0r0n => kernel_rfl
          case hQx0r0n => exact fun _ _ _ h => h
          case hwx0r0n => rfl
          case hyx0r0n =>
            intro W hW
            go_simp
            try with_reducible rfl
          simp only [Act.put, List.setIfInBounds_toArray, List.set_cons_succ, List.set_cons_zero]
          refine' wpAnyH_take (i := 1) ?h1x1r0n ?hsx1r0n ?hfx1r0n ?hrx1r0n ?hQx1r0n (Or.inl ⟨?hwx1r0n, ?hyx1r0n⟩) hS ?restx1r0n
          case h1x1r0n => (simp only [List.getElem?_toArray, List.getElem?_cons_succ, List.getElem?_cons_zero]; rfl)
          case hsx1r0n | hfx1r0n | hrx1r0n => kernel_rfl
          case hQx1r0n => exact fun _ _ _ h => h
          case hwx1r0n => rfl
          case hyx1r0n =>
            intro W hW
            go_simp
            try with_reducible rfl
          simp only [Act.put, List.setIfInBounds_toArray, List.set_cons_succ, List.set_cons_zero]
          refine' wpAnyH_take (i := 2) ?h1x2r0n ?hsx2r0n ?hfx2r0n ?hrx2r0n ?hQx2r0n (Or.inl ⟨?hwx2r0n, ?hyx2r0n⟩) hS ?restx2r0n
          case h1x2r0n => (simp only [List.getElem?_toArray, List.getElem?_cons_succ, List.getElem?_cons_zero]; rfl)
          case hsx2r0n | hfx2r0n | hrx2r0n => kernel_rfl
          case hQx2r0n => exact fun _ _ _ h => h
          case hwx2r0n => rfl
          case hyx2r0n =>
            intro W hW
            go_simp
            try with_reducible rfl
          simp only [Act.put, List.setIfInBounds_toArray, List.set_cons_succ, List.set_cons_zero]
          refine' wpAnyH_take (i := 3) ?h1x3r0n ?hsx3r0n ?hfx3r0n ?hrx3r0n ?hQx3r0n (Or.inr ⟨?hwx3r0n, rfl⟩) hS ?restx3r0n
          case h1x3r0n => (simp only [List.getElem?_toArray, List.getElem?_cons_succ, List.getElem?_cons_zero]; rfl)
          case hsx3r0n | hfx3r0n | hrx3r0n => kernel_rfl
          case hQx3r0n => exact fun _ _ _ h => h
          case hwx3r0n => rfl
          simp only [Act.put, List.setIfInBounds_toArray, List.set_cons_succ, List.set_cons_zero]
          refine' wpAnyH_take (i := 4) ?h1x4r0n ?hsx4r0n ?hfx4r0n ?hrx4r0n ?hQx4r0n (Or.inr ⟨?hwx4r0n, rfl⟩) hS ?restx4r0n
          case h1x4r0n => (simp only [List.getElem?_toArray, List.getElem?_cons_succ, List.getElem?_cons_zero]; rfl)
          case hsx4r0n | hfx4r0n | hrx4r0n => kernel_rfl
          case hQx4r0n => exact fun _ _ _ h => h
          case hwx4r0n => rfl
          simp only [Act.put, List.setIfInBounds_toArray, List.set_cons_succ, List.set_cons_zero]
          refine' wpAnyH_take (i := 5) ?h1x5r0n ?hsx5r0n ?hfx5r0n ?hrx5r0n ?hQx5r0n (Or.inr ⟨?hwx5r0n, rfl⟩) hS ?restx5r0n
          case h1x5r0n => (simp only [List.getElem?_toArray, List.getElem?_cons_succ, List.getElem?_cons_zero]; rfl)
          case hsx5r0n | hfx5r0n | hrx5r0n => kernel_rfl
          case hQx5r0n => exact fun _ _ _ h => h
          case hwx5r0n => rfl
          simp only [Act.put, List.setIfInBounds_toArray, List.set_cons_succ, List.set_cons_zero]
          refine' wpAnyH_take (i := 6) ?h1x6r0n ?hsx6r0n ?hfx6r0n ?hrx6r0n ?hQx6r0n (Or.inr ⟨?hwx6r0n, rfl⟩) hS ?restx6r0n
          case h1x6r0n => (simp only [List.getElem?_toArray, List.getElem?_cons_succ, List.getElem?_cons_zero]; rfl)
          case hsx6r0n | hfx6r0n | hrx6r0n => kernel_rfl
          case hQx6r0n => exact fun _ _ _ h => h
          case hwx6r0n => rfl
          simp only [Act.put, List.setIfInBounds_toArray, List.set_cons_succ, List.set_cons_zero]
          refine' wpAnyH_take (i := 7) ?h1x7r0n ?hsx7r0n ?hfx7r0n ?hrx7r0n ?hQx7r0n (Or.inr ⟨?hwx7r0n, rfl⟩) hS ?restx7r0n
          case h1x7r0n => (simp only [List.getElem?_toArray, List.getElem?_cons_succ, List.getElem?_cons_zero]; rfl)
          case hsx7r0n | hfx7r0n | hrx7r0n => kernel_rfl
          case hQx7r0n => exact fun _ _ _ h => h
          case hwx7r0n => rfl
          simp only [Act.put, List.setIfInBounds_toArray, List.set_cons_succ, List.set_cons_zero]
          refine' wpAnyH_take (i := 8) ?h1x8r0n ?hsx8r0n ?hfx8r0n ?hrx8r0n ?hQx8r0n (Or.inr ⟨?hwx8r0n, rfl⟩) hS ?restx8r0n
          case h1x8r0n => (simp only [List.getElem?_toArray, List.getElem?_cons_succ, List.getElem?_cons_zero]; rfl)
          case hsx8r0n | hfx8r0n | hrx8r0n => kernel_rfl
          case hQx8r0n => exact fun _ _ _ h => h
          case hwx8r0n => rfl
          simp only [Act.put, List.setIfInBounds_toArray, List.set_cons_succ, List.set_cons_zero]
          refine' wpAnyH_take (i := 9) ?h1x9r0n ?hsx9r0n ?hfx9r0n ?hrx9r0n ?hQx9r0n (Or.inr ⟨?hwx9r0n, rfl⟩) hS ?restx9r0n
          case h1x9r0n => (simp only [List.getElem?_toArray, List.getElem?_cons_succ, List.getElem?_cons_zero]; rfl)
          case hsx9r0n | hfx9r0n | hrx9r0n => kernel_rfl
          case hQx9r0n => exact fun _ _ _ h => h
          case hwx9r0n => rfl
          simp only [Act.put, List.setIfInBounds_toArray, List.set_cons_succ, List.set_cons_zero]
          refine' wpAnyH_take (i := 10) ?h1x10r0n ?hsx10r0n ?hfx10r0n ?hrx10r0n ?hQx10r0n (Or.inr ⟨?hwx10r0n, rfl⟩) hS ?restx10r0n
          case h1x10r0n => (simp only [List.getElem?_toArray, List.getElem?_cons_succ, List.getElem?_cons_zero]; rfl)
          case hsx10r0n | hfx10r0n | hrx10r0n => kernel_rfl
          case hQx10r0n => exact fun _ _ _ h => h
          case hwx10r0n => rfl
          simp only [Act.put, List.setIfInBounds_toArray, List.set_cons_succ, List.set_cons_zero]
          refine' wpAnyH_take (i := 11) ?h1x11r0n ?hsx11r0n ?hfx11r0n ?hrx11r0n ?hQx11r0n (Or.inr ⟨?hwx11r0n, rfl⟩) hS ?restx11r0n
          case h1x11r0n => (simp only [List.getElem?_toArray, List.getElem?_cons_succ, List.getElem?_cons_zero]; rfl)
          case hsx11r0n | hfx11r0n | hrx11r0n => kernel_rfl
          case hQx11r0n => exact fun _ _ _ h => h
          case hwx11r0n => rfl
          simp only [Act.put, List.setIfInBounds_toArray, List.set_cons_succ, List.set_cons_zero]
          refine' wpAnyH_take (i := 12) ?h1x12r0n ?hsx12r0n ?hfx12r0n ?hrx12r0n ?hQx12r0n (Or.inr ⟨?hwx12r0n, rfl⟩) hS ?restx12r0n
          case h1x12r0n => (simp only [List.getElem?_toArray, List.getElem?_cons_succ, List.getElem?_cons_zero]; rfl)
          case hsx12r0n | hfx12r0n | hrx12r0n => kernel_rfl
          case hQx12r0n => exact fun _ _ _ h => h
          case hwx12r0n => rfl
          simp only [Act.put, List.setIfInBounds_toArray, List.set_cons_succ, List.set_cons_zero]
          refine' wpAnyH_take (i := 13) ?h1x13r0n ?hsx13r0n ?hfx13r0n ?hrx13r0n ?hQx13r0n (Or.inr ⟨?hwx13r0n, rfl⟩) hS ?restx13r0n
          case h1x13r0n => (simp only [List.getElem?_toArray, List.getElem?_cons_succ, List.getElem?_cons_zero]; rfl)
          case hsx13r0n | hfx13r0n | hrx13r0n => kernel_rfl
          case hQx13r0n => exact fun _ _ _ h => h
          case hwx13r0n => rfl
          simp only [Act.put, List.setIfInBounds_toArray, List.set_cons_succ, List.set_cons_zero]
          refine' wpAnyH_take (i := 14) ?h1x14r0n ?hsx14r0n ?hfx14r0n ?hrx14r0n ?hQx14r0n (Or.inr ⟨?hwx14r0n, rfl⟩) hS ?restx14r0n
          case h1x14r0n => (simp only [List.getElem?_toArray, List.getElem?_cons_succ, List.getElem?_cons_zero]; rfl)
          case hsx14r0n | hfx14r0n | hrx14r0n => kernel_rfl
          case hQx14r0n => exact fun _ _ _ h => h
          case hwx14r0n => rfl
          simp only [Act.put, List.setIfInBounds_toArray, List.set_cons_succ, List.set_cons_zero]
          refine' wpAnyH_take (i := 15) ?h1x15r0n ?hsx15r0n ?hfx15r0n ?hrx15r0n ?hQx15r0n (Or.inr ⟨?hwx15r0n, rfl⟩) hS ?restx15r0n
          case h1x15r0n => (simp only [List.getElem?_toArray, List.getElem?_cons_succ, List.getElem?_cons_zero]; rfl)
          case hsx15r0n | hfx15r0n | hrx15r0n => kernel_rfl
          case hQx15r0n => exact fun _ _ _ h => h
          case hwx15r0n => rfl
          simp only [Act.put, List.setIfInBounds_toArray, List.set_cons_succ, List.set_cons_zero]
          refine' wpAnyH_take (i := 16) ?h1x16r0n ?hsx16r0n ?hfx16r0n ?hrx16r0n ?hQx16r0n (Or.inr ⟨?hwx16r0n, rfl⟩) hS ?restx16r0n
          case h1x16r0n => (simp only [List.getElem?_toArray, List.getElem?_cons_succ, List.getElem?_cons_zero]; rfl)
          case hsx16r0n | hfx16r0n | hrx16r0n => kernel_rfl
          case hQx16r0n => exact fun _ _ _ h => h
          case hwx16r0n => rfl
          simp only [Act.put, List.setIfInBounds_toArray, List.set_cons_succ, List.set_cons_zero]
          refine' wpAnyH_take (i := 17) ?h1x17r0n ?hsx17r0n ?hfx17r0n ?hrx17r0n ?hQx17r0n (Or.inl ⟨?hwx17r0n, ?hyx17r0n⟩) hS ?restx17r0n
          case h1x17r0n => (simp only [List.getElem?_toArray, List.getElem?_cons_succ, List.getElem?_cons_zero]; rfl)
          case hsx17r0n | hfx17r0n | hrx17r0n => kernel_rfl
          case hQx17r0n => exact fun _ _ _ h => h
          case hwx17r0n => rfl
          case hyx17r0n =>
            intro W hW
            go_simp
            try with_reducible rfl
          simp only [Act.put, List.setIfInBounds_toArray, List.set_cons_succ, List.set_cons_zero]
          refine' wpAnyH_take (i := 18) ?h1x18r0n ?hsx18r0n ?hfx18r0n ?hrx18r0n ?hQx18r0n (Or.inl ⟨?hwx18r0n, ?hyx18r0n⟩) hS ?restx18r0n
          case h1x18r0n => (simp only [List.getElem?_toArray, List.getElem?_cons_succ, List.getElem?_cons_zero]; rfl)
          case hsx18r0n | hfx18r0n | hrx18r0n => kernel_rfl
          case hQx18r0n => exact fun _ _ _ h => h
          case hwx18r0n => rfl
          case hyx18r0n =>
            intro W hW
            go_simp
            try with_reducible rfl
          simp only [Act.put, List.setIfInBounds_toArray, List.set_cons_succ, List.set_cons_zero]
          refine' wpAnyH_take (i := 19) ?h1x19r0n ?hsx19r0n ?hfx19r0n ?hrx19r0n ?hQx19r0n (Or.inl ⟨?hwx19r0n, ?hyx19r0n⟩) hS ?restx19r0n
          case h1x19r0n => (simp only [List.getElem?_toArray, List.getElem?_cons_succ, List.getElem?_cons_zero]; rfl)
          case hsx19r0n | hfx19r0n | hrx19r0n => kernel_rfl
          case hQx19r0n => exact fun _ _ _ h => h
          case hwx19r0n => rfl
          case hyx19r0n =>
            intro W hW
            go_simp
            try with_reducible rfl
          simp only [Act.put, List.setIfInBounds_toArray, List.set_cons_succ, List.set_cons_zero]
          refine' wpAnyH_take (i := 21) ?h1x21r0n ?hsx21r0n ?hfx21r0n ?hrx21r0n ?hQx21r0n (Or.inl ⟨?hwx21r0n, ?hyx21r0n⟩) hS ?restx21r0n
          case h1x21r0n => (simp only [List.getElem?_toArray, List.getElem?_cons_succ, List.getElem?_cons_zero]; rfl)
          case hsx21r0n | hfx21r0n | hrx21r0n => kernel_rfl
          case hQx21r0n => exact fun _ _ _ h => h
          case hwx21r0n => rfl
          case hyx21r0n =>
            intro W hW
            go_simp
            try with_reducible rfl
          simp only [Act.put, List.setIfInBounds_toArray, List.set_cons_succ, List.set_cons_zero]
          refine' wpAnyH_take (i := 26) ?h1x26r0n ?hsx26r0n ?hfx26r0n ?hrx26r0n ?hQx26r0n (Or.inl ⟨?hwx26r0n, ?hyx26r0n⟩) hS ?restx26r0n
          case h1x26r0n => (simp only [List.getElem?_toArray, List.getElem?_cons_succ, List.getElem?_cons_zero]; rfl)
          case hsx26r0n | hfx26r0n | hrx26r0n => kernel_rfl
          case hQx26r0n => exact fun _ _ _ h => h
          case hwx26r0n => rfl
          case hyx26r0n =>
            intro W hW
            go_simp
            try with_reducible rfl
          simp only [Act.put, List.setIfInBounds_toArray, List.set_cons_succ, List.set_cons_zero]
          refine' wpAnyH_take (i := 20) ?h1x20r0n ?hsx20r0n ?hfx20r0n ?hrx20r0n ?hQx20r0n (Or.inl ⟨?hwx20r0n, ?hyx20r0n⟩) hS ?restx20r0n
          case h1x20r0n => (simp only [List.getElem?_toArray, List.getElem?_cons_succ, List.getElem?_cons_zero]; rfl)
          case hsx20r0n | hfx20r0n | hrx20r0n => kernel_rfl
          case hQx20r0n => exact fun _ _ _ h => h
          case hwx20r0n => rfl
          case hyx20r0n =>
            intro W hW
            have cx := (hW.cell (p := ⟨w.heap.size, 1, none⟩) (blk_lt GR0.out)).trans ((cell_row GR0.out 1).trans O1.out)
            go_simp
            try with_reducible rfl
          simp only [Act.put, List.setIfInBounds_toArray, List.set_cons_succ, List.set_cons_zero]
          refine' wpAnyH_take (i := 27) ?h1x27r0n ?hsx27r0n ?hfx27r0n ?hrx27r0n ?hQx27r0n (Or.inl ⟨?hwx27r0n, ?hyx27r0n⟩) hS ?restx27r0n
          case h1x27r0n => (simp only [List.getElem?_toArray, List.getElem?_cons_succ, List.getElem?_cons_zero]; rfl)
          case hsx27r0n | hfx27r0n | hrx27r0n => kernel_rfl
          case hQx27r0n => exact fun _ _ _ h => h
          case hwx27r0n => rfl
          case hyx27r0n =>
            intro W hW
            have cx := (hW.cell (p := ⟨w.heap.size, 0, none⟩) (blk_lt GR0.out)).trans ((cell_row GR0.out 0).trans O0.out)
            go_simp
            try with_reducible rfl
          simp only [Act.put, List.setIfInBounds_toArray, List.set_cons_succ, List.set_cons_zero]
          refine' wpAnyH_take (i := 22) ?h1x22r0n ?hsx22r0n ?hfx22r0n ?hrx22r0n ?hQx22r0n (Or.inl ⟨?hwx22r0n, ?hyx22r0n⟩) hS ?restx22r0n
          case h1x22r0n => (simp only [List.getElem?_toArray, List.getElem?_cons_succ, List.getElem?_cons_zero]; rfl)
          case hsx22r0n | hfx22r0n | hrx22r0n => kernel_rfl
          case hQx22r0n => exact fun _ _ _ h => h
          case hwx22r0n => rfl
          case hyx22r0n =>
            intro W hW
            go_simp
            try with_reducible rfl
          simp only [Act.put, List.setIfInBounds_toArray, List.set_cons_succ, List.set_cons_zero]
          refine' wpAnyH_take (i := 23) ?h1x23r0n ?hsx23r0n ?hfx23r0n ?hrx23r0n ?hQx23r0n (Or.inl ⟨?hwx23r0n, ?hyx23r0n⟩) hS ?restx23r0n
          case h1x23r0n => (simp only [List.getElem?_toArray, List.getElem?_cons_succ, List.getElem?_cons_zero]; rfl)
          case hsx23r0n | hfx23r0n | hrx23r0n => kernel_rfl
          case hQx23r0n => exact fun _ _ _ h => h
          case hwx23r0n => rfl
          case hyx23r0n =>
            intro W hW
            go_simp
            try with_reducible rfl
          simp only [Act.put, List.setIfInBounds_toArray, List.set_cons_succ, List.set_cons_zero]
          refine' wpAnyH_take (i := 24) ?h1x24r0n ?hsx24r0n ?hfx24r0n ?hrx24r0n ?hQx24r0n (Or.inl ⟨?hwx24r0n, ?hyx24r0n⟩) hS ?restx24r0n
          case h1x24r0n => (simp only [List.getElem?_toArray, List.getElem?_cons_succ, List.getElem?_cons_zero]; rfl)
          case hsx24r0n | hfx24r0n | hrx24r0n => kernel_rfl
          case hQx24r0n => exact fun _ _ _ h => h
          case hwx24r0n => rfl
          case hyx24r0n =>
            intro W hW
            have cx := (CU0.out.below hW).2
            go_simp
            try with_reducible rfl
          simp only [Act.put, List.setIfInBounds_toArray, List.set_cons_succ, List.set_cons_zero]
          refine' wpAnyH_take (i := 25) ?h1x25r0n ?hsx25r0n ?hfx25r0n ?hrx25r0n ?hQx25r0n (Or.inl ⟨?hwx25r0n, ?hyx25r0n⟩) hS ?restx25r0n
          case h1x25r0n => (simp only [List.getElem?_toArray, List.getElem?_cons_succ, List.getElem?_cons_zero]; rfl)
          case hsx25r0n | hfx25r0n | hrx25r0n => kernel_rfl
          case hQx25r0n => exact fun _ _ _ h => h
          case hwx25r0n => rfl
          case hyx25r0n =>
            intro W hW
            go_simp
            try with_reducible rfl
          simp only [Act.put, List.setIfInBounds_toArray, List.set_cons_succ, List.set_cons_zero]
          refine wpAnyH_ready (rs := [28]) (by kernel_rfl) (by simp) ?_
          refine' (AllReadyH.cons ?hoc28r0n (fun K hK => ?stc28r0n) AllReadyH.nil)
          case hoc28r0n => (simp only [List.getElem?_toArray, List.getElem?_cons_succ, List.getElem?_cons_zero]; rfl)
          go_simp
          refine (size_false Wr0ns).mono ?_
          rintro e Wr0nx28 ⟨rfl, hb⟩
          go_wp2_with fail
          refine hK.out _ _ (hS.trans (hb.mono hS.size)) (fun hHeld => ?_)
          clear hK K
          try simp only [Act.put, List.setIfInBounds_toArray, List.set_cons_succ, List.set_cons_zero]
          clear hS
          have hS := hHeld
          clear hHeld
          clear hb
          refine' wpAnyH_take (i := 29) ?h1x29r0nx28 ?hsx29r0nx28 ?hfx29r0nx28 ?hrx29r0nx28 ?hQx29r0nx28 (Or.inl ⟨?hwx29r0nx28, ?hyx29r0nx28⟩) hS ?restx29r0nx28
          case h1x29r0nx28 => (simp only [List.getElem?_toArray, List.getElem?_cons_succ, List.getElem?_cons_zero]; rfl)
          case hsx29r0nx28 | hfx29r0nx28 | hrx29r0nx28 => kernel_rfl
          case hQx29r0nx28 => exact fun _ _ _ h => h
          case hwx29r0nx28 => rfl
          case hyx29r0nx28 =>
            intro W hW
            go_simp
            try with_reducible rfl
          simp only [Act.put, List.setIfInBounds_toArray, List.set_cons_succ, List.set_cons_zero]
          refine' wpAnyH_take (i := 30) ?h1x30r0nx28 ?hsx30r0nx28 ?hfx30r0nx28 ?hrx30r0nx28 ?hQx30r0nx28 (Or.inl ⟨?hwx30r0nx28, ?hyx30r0nx28⟩) hS ?restx30r0nx28
          case h1x30r0nx28 => (simp only [List.getElem?_toArray, List.getElem?_cons_succ, List.getElem?_cons_zero]; rfl)
          case hsx30r0nx28 | hfx30r0nx28 | hrx30r0nx28 => kernel_rfl
          case hQx30r0nx28 => exact fun _ _ _ h => h
          case hwx30r0nx28 => rfl
          case hyx30r0nx28 =>
            intro W hW
            go_simp
            try with_reducible rfl
          simp only [Act.put, List.setIfInBounds_toArray, List.set_cons_succ, List.set_cons_zero]
          refine wpAnyH_done (by kernel_rfl) ?_ _
          have BE := Lib.hid (B1.out.trans ((HB.out.trans (hS.mono HB.out.size)).mono B1.out.size))
          clear hS
          go_wp2_with fail
          go_ret
          exact ⟨by rw [NO.out _ HLT.out BAD.out]; rfl, BE.out⟩
      · obtain ⟨i1, rfl⟩ : ∃ i1, i = i1 + 1 := ⟨i - 1, by omega⟩
        obtain ⟨b', o', u', e', ck', _⟩ := PW.out.at i1 (by rw [← HLL.out]; have := HLT.out; omega)
        have e2 : (⟨b, o, none⟩ : Addr) = ⟨b', o', none⟩ := by injection e'
        injection e2 with e3 e4
        subst e3 e4
        obtain ⟨kp, hkp⟩ : ∃ kp, kp = keyD x.l i1 := ⟨_, rfl⟩
        rw [Nat.add_sub_cancel, ← hkp, show decide (i1 + 1 = 0) = false from decide_eq_false (by omega), Bool.false_or] at GDI
        rw [← hkp] at ck'
        have CP := Lib.hid ck'
        have hp1 : (0 : Int) < (i1 : Int) + 1 := by omega
        have hw1 : IntKind.i64.wrap (i1 : Int) = (i1 : Int) := IntWalk.i64_in _ (by omega)
        have hl1 : (i1 : Int) < (L : Int) := by omega
        have hii2 : (i1 : Int) + 1 < (L : Int) := by omega
        have hii3 : (0 : Int) ≤ (i1 : Int) + 1 := by omega
        clear hii
        clear h0 e' ck' hkp
        by_cases hk : kp < key
        · have hk2 : ¬ (key ≤ kp) := by omega
          by_cases hb2 : bl = 36
          · subst hb2
            have YES : Hid (gdD x (i1 + 1) = true) := by show _ = _; rw [GDI.out, decide_eq_true hk]; rfl
            clear hk
            have GR0 := GR
            have CK0 := CK
            have CU0 := CU
            have CP0 := CP
            refine wp_region_held_drew (S := fun W => Below wr.heap.size wr W) (by kernel_rfl) ((Below.refl _ _).drew) (fun hS => ?_)
            have hb0 : Below wr.heap.size wr wr.drew := (Below.refl _ _).drew
            clear hb0 
            generalize wr.drew = Wr1ys at hS  ⊢
            refine' wpAnyH_take (i := 0) ?h1x0r1y ?hsx0r1y ?hfx0r1y ?hrx0r1y ?hQx0r1y (Or.inl ⟨?hwx0r1y, ?hyx0r1y⟩) hS ?restx0r1y
            case h1x0r1y => (simp only [List.getElem?_toArray, List.getElem?_cons_zero]; rfl)
            case hsx0r1y | hfx0r1y | hrx0r1y => kernel_rfl
            case hQx0r1y => exact fun _ _ _ h => h
            case hwx0r1y => rfl
            case hyx0r1y =>
              intro W hW
              go_simp
              try with_reducible rfl
            simp only [Act.put, List.setIfInBounds_toArray, List.set_cons_succ, List.set_cons_zero]
            refine' wpAnyH_take (i := 1) ?h1x1r1y ?hsx1r1y ?hfx1r1y ?hrx1r1y ?hQx1r1y (Or.inl ⟨?hwx1r1y, ?hyx1r1y⟩) hS ?restx1r1y
            case h1x1r1y => (simp only [List.getElem?_toArray, List.getElem?_cons_succ, List.getElem?_cons_zero]; rfl)
            case hsx1r1y | hfx1r1y | hrx1r1y => kernel_rfl
            case hQx1r1y => exact fun _ _ _ h => h
            case hwx1r1y => rfl
            case hyx1r1y =>
              intro W hW
              go_simp
              try with_reducible rfl
            simp only [Act.put, List.setIfInBounds_toArray, List.set_cons_succ, List.set_cons_zero]
            refine' wpAnyH_take (i := 2) ?h1x2r1y ?hsx2r1y ?hfx2r1y ?hrx2r1y ?hQx2r1y (Or.inl ⟨?hwx2r1y, ?hyx2r1y⟩) hS ?restx2r1y
            case h1x2r1y => (simp only [List.getElem?_toArray, List.getElem?_cons_succ, List.getElem?_cons_zero]; rfl)
            case hsx2r1y | hfx2r1y | hrx2r1y => kernel_rfl
            case hQx2r1y => exact fun _ _ _ h => h
            case hwx2r1y => rfl
            case hyx2r1y =>
              intro W hW
              go_simp
              try with_reducible rfl
            simp only [Act.put, List.setIfInBounds_toArray, List.set_cons_succ, List.set_cons_zero]
            refine' wpAnyH_take (i := 3) ?h1x3r1y ?hsx3r1y ?hfx3r1y ?hrx3r1y ?hQx3r1y (Or.inl ⟨?hwx3r1y, ?hyx3r1y⟩) hS ?restx3r1y
            case h1x3r1y => (simp only [List.getElem?_toArray, List.getElem?_cons_succ, List.getElem?_cons_zero]; rfl)
            case hsx3r1y | hfx3r1y | hrx3r1y => kernel_rfl
            case hQx3r1y => exact fun _ _ _ h => h
            case hwx3r1y => rfl
            case hyx3r1y =>
              intro W hW
              go_simp
              try with_reducible rfl
            simp only [Act.put, List.setIfInBounds_toArray, List.set_cons_succ, List.set_cons_zero]
            refine' wpAnyH_take (i := 5) ?h1x5r1y ?hsx5r1y ?hfx5r1y ?hrx5r1y ?hQx5r1y (Or.inl ⟨?hwx5r1y, ?hyx5r1y⟩) hS ?restx5r1y
            case h1x5r1y => (simp only [List.getElem?_toArray, List.getElem?_cons_succ, List.getElem?_cons_zero]; rfl)
            case hsx5r1y | hfx5r1y | hrx5r1y => kernel_rfl
            case hQx5r1y => exact fun _ _ _ h => h
            case hwx5r1y => rfl
            case hyx5r1y =>
              intro W hW
              go_simp
              try with_reducible rfl
            simp only [Act.put, List.setIfInBounds_toArray, List.set_cons_succ, List.set_cons_zero]
            refine' wpAnyH_take (i := 10) ?h1x10r1y ?hsx10r1y ?hfx10r1y ?hrx10r1y ?hQx10r1y (Or.inl ⟨?hwx10r1y, ?hyx10r1y⟩) hS ?restx10r1y
            case h1x10r1y => (simp only [List.getElem?_toArray, List.getElem?_cons_succ, List.getElem?_cons_zero]; rfl)
            case hsx10r1y | hfx10r1y | hrx10r1y => kernel_rfl
            case hQx10r1y => exact fun _ _ _ h => h
            case hwx10r1y => rfl
            case hyx10r1y =>
              intro W hW
              go_simp
              try with_reducible rfl
            simp only [Act.put, List.setIfInBounds_toArray, List.set_cons_succ, List.set_cons_zero]
            refine' wpAnyH_take (i := 12) ?h1x12r1y ?hsx12r1y ?hfx12r1y ?hrx12r1y ?hQx12r1y (Or.inl ⟨?hwx12r1y, ?hyx12r1y⟩) hS ?restx12r1y
            case h1x12r1y => (simp only [List.getElem?_toArray, List.getElem?_cons_succ, List.getElem?_cons_zero]; rfl)
            case hsx12r1y | hfx12r1y | hrx12r1y => kernel_rfl
            case hQx12r1y => exact fun _ _ _ h => h
            case hwx12r1y => rfl
            case hyx12r1y =>
              intro W hW
              go_simp
              try with_reducible rfl
            simp only [Act.put, List.setIfInBounds_toArray, List.set_cons_succ, List.set_cons_zero]
            refine' wpAnyH_take (i := 4) ?h1x4r1y ?hsx4r1y ?hfx4r1y ?hrx4r1y ?hQx4r1y (Or.inl ⟨?hwx4r1y, ?hyx4r1y⟩) hS ?restx4r1y
            case h1x4r1y => (simp only [List.getElem?_toArray, List.getElem?_cons_succ, List.getElem?_cons_zero]; rfl)
            case hsx4r1y | hfx4r1y | hrx4r1y => kernel_rfl
            case hQx4r1y => exact fun _ _ _ h => h
            case hwx4r1y => rfl
            case hyx4r1y =>
              intro W hW
              have cx := (hW.cell (p := ⟨w.heap.size, 1, none⟩) (blk_lt GR0.out)).trans ((cell_row GR0.out 1).trans O1.out)
              go_simp
              try with_reducible rfl
            simp only [Act.put, List.setIfInBounds_toArray, List.set_cons_succ, List.set_cons_zero]
            refine' wpAnyH_take (i := 6) ?h1x6r1y ?hsx6r1y ?hfx6r1y ?hrx6r1y ?hQx6r1y (Or.inl ⟨?hwx6r1y, ?hyx6r1y⟩) hS ?restx6r1y
            case h1x6r1y => (simp only [List.getElem?_toArray, List.getElem?_cons_succ, List.getElem?_cons_zero]; rfl)
            case hsx6r1y | hfx6r1y | hrx6r1y => kernel_rfl
            case hQx6r1y => exact fun _ _ _ h => h
            case hwx6r1y => rfl
            case hyx6r1y =>
              intro W hW
              go_simp
              try with_reducible rfl
            simp only [Act.put, List.setIfInBounds_toArray, List.set_cons_succ, List.set_cons_zero]
            refine' wpAnyH_take (i := 11) ?h1x11r1y ?hsx11r1y ?hfx11r1y ?hrx11r1y ?hQx11r1y (Or.inl ⟨?hwx11r1y, ?hyx11r1y⟩) hS ?restx11r1y
            case h1x11r1y => (simp only [List.getElem?_toArray, List.getElem?_cons_succ, List.getElem?_cons_zero]; rfl)
            case hsx11r1y | hfx11r1y | hrx11r1y => kernel_rfl
            case hQx11r1y => exact fun _ _ _ h => h
            case hwx11r1y => rfl
            case hyx11r1y =>
              intro W hW
              have cx := (hW.cell (p := ⟨w.heap.size, 1, none⟩) (blk_lt GR0.out)).trans ((cell_row GR0.out 1).trans O1.out)
              go_simp
              try with_reducible rfl
            simp only [Act.put, List.setIfInBounds_toArray, List.set_cons_succ, List.set_cons_zero]
            refine' wpAnyH_take (i := 7) ?h1x7r1y ?hsx7r1y ?hfx7r1y ?hrx7r1y ?hQx7r1y (Or.inl ⟨?hwx7r1y, ?hyx7r1y⟩) hS ?restx7r1y
            case h1x7r1y => (simp only [List.getElem?_toArray, List.getElem?_cons_succ, List.getElem?_cons_zero]; rfl)
            case hsx7r1y | hfx7r1y | hrx7r1y => kernel_rfl
            case hQx7r1y => exact fun _ _ _ h => h
            case hwx7r1y => rfl
            case hyx7r1y =>
              intro W hW
              go_simp
              try with_reducible rfl
            simp only [Act.put, List.setIfInBounds_toArray, List.set_cons_succ, List.set_cons_zero]
            refine' wpAnyH_take (i := 13) ?h1x13r1y ?hsx13r1y ?hfx13r1y ?hrx13r1y ?hQx13r1y (Or.inl ⟨?hwx13r1y, ?hyx13r1y⟩) hS ?restx13r1y
            case h1x13r1y => (simp only [List.getElem?_toArray, List.getElem?_cons_succ, List.getElem?_cons_zero]; rfl)
            case hsx13r1y | hfx13r1y | hrx13r1y => kernel_rfl
            case hQx13r1y => exact fun _ _ _ h => h
            case hwx13r1y => rfl
            case hyx13r1y =>
              intro W hW
              go_simp
              try with_reducible rfl
            simp only [Act.put, List.setIfInBounds_toArray, List.set_cons_succ, List.set_cons_zero]
            refine' wpAnyH_take (i := 8) ?h1x8r1y ?hsx8r1y ?hfx8r1y ?hrx8r1y ?hQx8r1y (Or.inl ⟨?hwx8r1y, ?hyx8r1y⟩) hS ?restx8r1y
            case h1x8r1y => (simp only [List.getElem?_toArray, List.getElem?_cons_succ, List.getElem?_cons_zero]; rfl)
            case hsx8r1y | hfx8r1y | hrx8r1y => kernel_rfl
            case hQx8r1y => exact fun _ _ _ h => h
            case hwx8r1y => rfl
            case hyx8r1y =>
              intro W hW
              go_simp
              try with_reducible rfl
            simp only [Act.put, List.setIfInBounds_toArray, List.set_cons_succ, List.set_cons_zero]
            refine' wpAnyH_take (i := 14) ?h1x14r1y ?hsx14r1y ?hfx14r1y ?hrx14r1y ?hQx14r1y (Or.inl ⟨?hwx14r1y, ?hyx14r1y⟩) hS ?restx14r1y
            case h1x14r1y => (simp only [List.getElem?_toArray, List.getElem?_cons_succ, List.getElem?_cons_zero]; rfl)
            case hsx14r1y | hfx14r1y | hrx14r1y => kernel_rfl
            case hQx14r1y => exact fun _ _ _ h => h
            case hwx14r1y => rfl
            case hyx14r1y =>
              intro W hW
              go_simp
              try with_reducible rfl
            simp only [Act.put, List.setIfInBounds_toArray, List.set_cons_succ, List.set_cons_zero]
            refine' wpAnyH_take (i := 9) ?h1x9r1y ?hsx9r1y ?hfx9r1y ?hrx9r1y ?hQx9r1y (Or.inl ⟨?hwx9r1y, ?hyx9r1y⟩) hS ?restx9r1y
            case h1x9r1y => (simp only [List.getElem?_toArray, List.getElem?_cons_succ, List.getElem?_cons_zero]; rfl)
            case hsx9r1y | hfx9r1y | hrx9r1y => kernel_rfl
            case hQx9r1y => exact fun _ _ _ h => h
            case hwx9r1y => rfl
            case hyx9r1y =>
              intro W hW
              have cx := (CP0.out.below hW).2
              go_simp
              try with_reducible rfl
            simp only [Act.put, List.setIfInBounds_toArray, List.set_cons_succ, List.set_cons_zero]
            refine' wpAnyH_take (i := 15) ?h1x15r1y ?hsx15r1y ?hfx15r1y ?hrx15r1y ?hQx15r1y (Or.inl ⟨?hwx15r1y, ?hyx15r1y⟩) hS ?restx15r1y
            case h1x15r1y => (simp only [List.getElem?_toArray, List.getElem?_cons_succ, List.getElem?_cons_zero]; rfl)
            case hsx15r1y | hfx15r1y | hrx15r1y => kernel_rfl
            case hQx15r1y => exact fun _ _ _ h => h
            case hwx15r1y => rfl
            case hyx15r1y =>
              intro W hW
              have cx := (CK0.out.below hW).2
              go_simp
              try with_reducible rfl
            simp only [Act.put, List.setIfInBounds_toArray, List.set_cons_succ, List.set_cons_zero]
            refine' wpAnyH_take (i := 16) ?h1x16r1y ?hsx16r1y ?hfx16r1y ?hrx16r1y ?hQx16r1y (Or.inl ⟨?hwx16r1y, ?hyx16r1y⟩) hS ?restx16r1y
            case h1x16r1y => (simp only [List.getElem?_toArray, List.getElem?_cons_succ, List.getElem?_cons_zero]; rfl)
            case hsx16r1y | hfx16r1y | hrx16r1y => kernel_rfl
            case hQx16r1y => exact fun _ _ _ h => h
            case hwx16r1y => rfl
            case hyx16r1y =>
              intro W hW
              go_simp
              try with_reducible rfl
            simp only [Act.put, List.setIfInBounds_toArray, List.set_cons_succ, List.set_cons_zero]
            refine' wpAnyH_take (i := 17) ?h1x17r1y ?hsx17r1y ?hfx17r1y ?hrx17r1y ?hQx17r1y (Or.inl ⟨?hwx17r1y, ?hyx17r1y⟩) hS ?restx17r1y
            case h1x17r1y => (simp only [List.getElem?_toArray, List.getElem?_cons_succ, List.getElem?_cons_zero]; rfl)
            case hsx17r1y | hfx17r1y | hrx17r1y => kernel_rfl
            case hQx17r1y => exact fun _ _ _ h => h
            case hwx17r1y => rfl
            case hyx17r1y =>
              intro W hW
              go_simp
              try with_reducible rfl
            simp only [Act.put, List.setIfInBounds_toArray, List.set_cons_succ, List.set_cons_zero]
            refine' wpAnyH_take (i := 18) ?h1x18r1y ?hsx18r1y ?hfx18r1y ?hrx18r1y ?hQx18r1y (Or.inl ⟨?hwx18r1y, ?hyx18r1y⟩) hS ?restx18r1y
            case h1x18r1y => (simp only [List.getElem?_toArray, List.getElem?_cons_succ, List.getElem?_cons_zero]; rfl)
            case hsx18r1y | hfx18r1y | hrx18r1y => kernel_rfl
            case hQx18r1y => exact fun _ _ _ h => h
            case hwx18r1y => rfl
            case hyx18r1y =>
              intro W hW
              go_simp
              try with_reducible rfl
            simp only [Act.put, List.setIfInBounds_toArray, List.set_cons_succ, List.set_cons_zero]
            refine' wpAnyH_take (i := 19) ?h1x19r1y ?hsx19r1y ?hfx19r1y ?hrx19r1y ?hQx19r1y (Or.inl ⟨?hwx19r1y, ?hyx19r1y⟩) hS ?restx19r1y
            case h1x19r1y => (simp only [List.getElem?_toArray, List.getElem?_cons_succ, List.getElem?_cons_zero]; rfl)
            case hsx19r1y | hfx19r1y | hrx19r1y => kernel_rfl
            case hQx19r1y => exact fun _ _ _ h => h
            case hwx19r1y => rfl
            case hyx19r1y =>
              intro W hW
              go_simp
              try with_reducible rfl
            simp only [Act.put, List.setIfInBounds_toArray, List.set_cons_succ, List.set_cons_zero]
            refine' wpAnyH_take (i := 21) ?h1x21r1y ?hsx21r1y ?hfx21r1y ?hrx21r1y ?hQx21r1y (Or.inl ⟨?hwx21r1y, ?hyx21r1y⟩) hS ?restx21r1y
            case h1x21r1y => (simp only [List.getElem?_toArray, List.getElem?_cons_succ, List.getElem?_cons_zero]; rfl)
            case hsx21r1y | hfx21r1y | hrx21r1y => kernel_rfl
            case hQx21r1y => exact fun _ _ _ h => h
            case hwx21r1y => rfl
            case hyx21r1y =>
              intro W hW
              go_simp
              try with_reducible rfl
            simp only [Act.put, List.setIfInBounds_toArray, List.set_cons_succ, List.set_cons_zero]
            refine' wpAnyH_take (i := 26) ?h1x26r1y ?hsx26r1y ?hfx26r1y ?hrx26r1y ?hQx26r1y (Or.inl ⟨?hwx26r1y, ?hyx26r1y⟩) hS ?restx26r1y
            case h1x26r1y => (simp only [List.getElem?_toArray, List.getElem?_cons_succ, List.getElem?_cons_zero]; rfl)
            case hsx26r1y | hfx26r1y | hrx26r1y => kernel_rfl
            case hQx26r1y => exact fun _ _ _ h => h
            case hwx26r1y => rfl
            case hyx26r1y =>
              intro W hW
              go_simp
              try with_reducible rfl
            simp only [Act.put, List.setIfInBounds_toArray, List.set_cons_succ, List.set_cons_zero]
            refine' wpAnyH_take (i := 20) ?h1x20r1y ?hsx20r1y ?hfx20r1y ?hrx20r1y ?hQx20r1y (Or.inl ⟨?hwx20r1y, ?hyx20r1y⟩) hS ?restx20r1y
            case h1x20r1y => (simp only [List.getElem?_toArray, List.getElem?_cons_succ, List.getElem?_cons_zero]; rfl)
            case hsx20r1y | hfx20r1y | hrx20r1y => kernel_rfl
            case hQx20r1y => exact fun _ _ _ h => h
            case hwx20r1y => rfl
            case hyx20r1y =>
              intro W hW
              have cx := (hW.cell (p := ⟨w.heap.size, 1, none⟩) (blk_lt GR0.out)).trans ((cell_row GR0.out 1).trans O1.out)
              go_simp
              try with_reducible rfl
            simp only [Act.put, List.setIfInBounds_toArray, List.set_cons_succ, List.set_cons_zero]
            refine' wpAnyH_take (i := 27) ?h1x27r1y ?hsx27r1y ?hfx27r1y ?hrx27r1y ?hQx27r1y (Or.inl ⟨?hwx27r1y, ?hyx27r1y⟩) hS ?restx27r1y
            case h1x27r1y => (simp only [List.getElem?_toArray, List.getElem?_cons_succ, List.getElem?_cons_zero]; rfl)
            case hsx27r1y | hfx27r1y | hrx27r1y => kernel_rfl
            case hQx27r1y => exact fun _ _ _ h => h
            case hwx27r1y => rfl
            case hyx27r1y =>
              intro W hW
              have cx := (hW.cell (p := ⟨w.heap.size, 0, none⟩) (blk_lt GR0.out)).trans ((cell_row GR0.out 0).trans O0.out)
              go_simp
              try with_reducible rfl
            simp only [Act.put, List.setIfInBounds_toArray, List.set_cons_succ, List.set_cons_zero]
            refine' wpAnyH_take (i := 22) ?h1x22r1y ?hsx22r1y ?hfx22r1y ?hrx22r1y ?hQx22r1y (Or.inl ⟨?hwx22r1y, ?hyx22r1y⟩) hS ?restx22r1y
            case h1x22r1y => (simp only [List.getElem?_toArray, List.getElem?_cons_succ, List.getElem?_cons_zero]; rfl)
            case hsx22r1y | hfx22r1y | hrx22r1y => kernel_rfl
            case hQx22r1y => exact fun _ _ _ h => h
            case hwx22r1y => rfl
            case hyx22r1y =>
              intro W hW
              go_simp
              try with_reducible rfl
            simp only [Act.put, List.setIfInBounds_toArray, List.set_cons_succ, List.set_cons_zero]
            refine' wpAnyH_take (i := 23) ?h1x23r1y ?hsx23r1y ?hfx23r1y ?hrx23r1y ?hQx23r1y (Or.inl ⟨?hwx23r1y, ?hyx23r1y⟩) hS ?restx23r1y
            case h1x23r1y => (simp only [List.getElem?_toArray, List.getElem?_cons_succ, List.getElem?_cons_zero]; rfl)
            case hsx23r1y | hfx23r1y | hrx23r1y => kernel_rfl
            case hQx23r1y => exact fun _ _ _ h => h
            case hwx23r1y => rfl
            case hyx23r1y =>
              intro W hW
              go_simp
              try with_reducible rfl
            simp only [Act.put, List.setIfInBounds_toArray, List.set_cons_succ, List.set_cons_zero]
            refine' wpAnyH_take (i := 24) ?h1x24r1y ?hsx24r1y ?hfx24r1y ?hrx24r1y ?hQx24r1y (Or.inl ⟨?hwx24r1y, ?hyx24r1y⟩) hS ?restx24r1y
            case h1x24r1y => (simp only [List.getElem?_toArray, List.getElem?_cons_succ, List.getElem?_cons_zero]; rfl)
            case hsx24r1y | hfx24r1y | hrx24r1y => kernel_rfl
            case hQx24r1y => exact fun _ _ _ h => h
            case hwx24r1y => rfl
            case hyx24r1y =>
              intro W hW
              have cx := (CU0.out.below hW).2
              go_simp
              try with_reducible rfl
            simp only [Act.put, List.setIfInBounds_toArray, List.set_cons_succ, List.set_cons_zero]
            refine' wpAnyH_take (i := 25) ?h1x25r1y ?hsx25r1y ?hfx25r1y ?hrx25r1y ?hQx25r1y (Or.inl ⟨?hwx25r1y, ?hyx25r1y⟩) hS ?restx25r1y
            case h1x25r1y => (simp only [List.getElem?_toArray, List.getElem?_cons_succ, List.getElem?_cons_zero]; rfl)
            case hsx25r1y | hfx25r1y | hrx25r1y => kernel_rfl
            case hQx25r1y => exact fun _ _ _ h => h
            case hwx25r1y => rfl
            case hyx25r1y =>
              intro W hW
              go_simp
              try with_reducible rfl
            simp only [Act.put, List.setIfInBounds_toArray, List.set_cons_succ, List.set_cons_zero]
            refine wpAnyH_ready (rs := [28]) (by kernel_rfl) (by simp) ?_
            refine' (AllReadyH.cons ?hoc28r1y (fun K hK => ?stc28r1y) AllReadyH.nil)
            case hoc28r1y => (simp only [List.getElem?_toArray, List.getElem?_cons_succ, List.getElem?_cons_zero]; rfl)
            go_simp
            refine (size_false Wr1ys).mono ?_
            rintro e Wr1yx28 ⟨rfl, hb⟩
            go_wp2_with fail
            refine hK.out _ _ (hS.trans (hb.mono hS.size)) (fun hHeld => ?_)
            clear hK K
            try simp only [Act.put, List.setIfInBounds_toArray, List.set_cons_succ, List.set_cons_zero]
            clear hS
            have hS := hHeld
            clear hHeld
            clear hb
            refine' wpAnyH_take (i := 29) ?h1x29r1yx28 ?hsx29r1yx28 ?hfx29r1yx28 ?hrx29r1yx28 ?hQx29r1yx28 (Or.inl ⟨?hwx29r1yx28, ?hyx29r1yx28⟩) hS ?restx29r1yx28
            case h1x29r1yx28 => (simp only [List.getElem?_toArray, List.getElem?_cons_succ, List.getElem?_cons_zero]; rfl)
            case hsx29r1yx28 | hfx29r1yx28 | hrx29r1yx28 => kernel_rfl
            case hQx29r1yx28 => exact fun _ _ _ h => h
            case hwx29r1yx28 => rfl
            case hyx29r1yx28 =>
              intro W hW
              go_simp
              try with_reducible rfl
            simp only [Act.put, List.setIfInBounds_toArray, List.set_cons_succ, List.set_cons_zero]
            refine' wpAnyH_take (i := 30) ?h1x30r1yx28 ?hsx30r1yx28 ?hfx30r1yx28 ?hrx30r1yx28 ?hQx30r1yx28 (Or.inl ⟨?hwx30r1yx28, ?hyx30r1yx28⟩) hS ?restx30r1yx28
            case h1x30r1yx28 => (simp only [List.getElem?_toArray, List.getElem?_cons_succ, List.getElem?_cons_zero]; rfl)
            case hsx30r1yx28 | hfx30r1yx28 | hrx30r1yx28 => kernel_rfl
            case hQx30r1yx28 => exact fun _ _ _ h => h
            case hwx30r1yx28 => rfl
            case hyx30r1yx28 =>
              intro W hW
              go_simp
              try with_reducible rfl
            simp only [Act.put, List.setIfInBounds_toArray, List.set_cons_succ, List.set_cons_zero]
            refine wpAnyH_done (by kernel_rfl) ?_ _
            have BE := Lib.hid (HB.out.trans (hS.mono HB.out.size))
            clear hS
            go_wp2_with fail
            go_roundw
            case rel => exact ⟨i1 + 1 + 1, by have := HLT.out; omega, by go_num, NXT.out YES.out, BE.out⟩
            case measure => simp [intOf]; have := HLT.out; omega
          · have hne : ((bl : Int) != 36) = true := by simp; omega
            have BAD : Hid (gdD x (i1 + 1) = false) := by show _ = _; rw [GDI.out]; simp [hb2]
            clear hb2 hk
            have GR0 := GR
            have CK0 := CK
            have CU0 := CU
            have CP0 := CP
            refine wp_region_held_drew (S := fun W => Below wr.heap.size wr W) (by kernel_rfl) ((Below.refl _ _).drew) (fun hS => ?_)
            have hb0 : Below wr.heap.size wr wr.drew := (Below.refl _ _).drew
            clear hb0 
            generalize wr.drew = Wr1ns at hS  ⊢
            refine' wpAnyH_take (i := 0) ?h1x0r1n ?hsx0r1n ?hfx0r1n ?hrx0r1n ?hQx0r1n (Or.inl ⟨?hwx0r1n, ?hyx0r1n⟩) hS ?restx0r1n
            case h1x0r1n => (simp only [List.getElem?_toArray, List.getElem?_cons_zero]; rfl)
            case hsx0r1n | hfx0r1n | hrx0r1n => kernel_rfl
            case hQx0r1n => exact fun _ _ _ h => h
            case hwx0r1n => rfl
            case hyx0r1n =>
              intro W hW
              go_simp
              try with_reducible rfl
            simp only [Act.put, List.setIfInBounds_toArray, List.set_cons_succ, List.set_cons_zero]
            refine' wpAnyH_take (i := 1) ?h1x1r1n ?hsx1r1n ?hfx1r1n ?hrx1r1n ?hQx1r1n (Or.inl ⟨?hwx1r1n, ?hyx1r1n⟩) hS ?restx1r1n
            case h1x1r1n => (simp only [List.getElem?_toArray, List.getElem?_cons_succ, List.getElem?_cons_zero]; rfl)
            case hsx1r1n | hfx1r1n | hrx1r1n => kernel_rfl
            case hQx1r1n => exact fun _ _ _ h => h
            case hwx1r1n => rfl
            case hyx1r1n =>
              intro W hW
              go_simp
              try with_reducible rfl
            simp only [Act.put, List.setIfInBounds_toArray, List.set_cons_succ, List.set_cons_zero]
            refine' wpAnyH_take (i := 2) ?h1x2r1n ?hsx2r1n ?hfx2r1n ?hrx2r1n ?hQx2r1n (Or.inl ⟨?hwx2r1n, ?hyx2r1n⟩) hS ?restx2r1n
            case h1x2r1n => (simp only [List.getElem?_toArray, List.getElem?_cons_succ, List.getElem?_cons_zero]; rfl)
            case hsx2r1n | hfx2r1n | hrx2r1n => kernel_rfl
            case hQx2r1n => exact fun _ _ _ h => h
            case hwx2r1n => rfl
            case hyx2r1n =>
              intro W hW
              go_simp
              try with_reducible rfl
            simp only [Act.put, List.setIfInBounds_toArray, List.set_cons_succ, List.set_cons_zero]
            refine' wpAnyH_take (i := 3) ?h1x3r1n ?hsx3r1n ?hfx3r1n ?hrx3r1n ?hQx3r1n (Or.inl ⟨?hwx3r1n, ?hyx3r1n⟩) hS ?restx3r1n
            case h1x3r1n => (simp only [List.getElem?_toArray, List.getElem?_cons_succ, List.getElem?_cons_zero]; rfl)
            case hsx3r1n | hfx3r1n | hrx3r1n => kernel_rfl
            case hQx3r1n => exact fun _ _ _ h => h
            case hwx3r1n => rfl
            case hyx3r1n =>
              intro W hW
              go_simp
              try with_reducible rfl
            simp only [Act.put, List.setIfInBounds_toArray, List.set_cons_succ, List.set_cons_zero]
            refine' wpAnyH_take (i := 5) ?h1x5r1n ?hsx5r1n ?hfx5r1n ?hrx5r1n ?hQx5r1n (Or.inl ⟨?hwx5r1n, ?hyx5r1n⟩) hS ?restx5r1n
            case h1x5r1n => (simp only [List.getElem?_toArray, List.getElem?_cons_succ, List.getElem?_cons_zero]; rfl)
            case hsx5r1n | hfx5r1n | hrx5r1n => kernel_rfl
            case hQx5r1n => exact fun _ _ _ h => h
            case hwx5r1n => rfl
            case hyx5r1n =>
              intro W hW
              go_simp
              try with_reducible rfl
            simp only [Act.put, List.setIfInBounds_toArray, List.set_cons_succ, List.set_cons_zero]
            refine' wpAnyH_take (i := 10) ?h1x10r1n ?hsx10r1n ?hfx10r1n ?hrx10r1n ?hQx10r1n (Or.inl ⟨?hwx10r1n, ?hyx10r1n⟩) hS ?restx10r1n
            case h1x10r1n => (simp only [List.getElem?_toArray, List.getElem?_cons_succ, List.getElem?_cons_zero]; rfl)
            case hsx10r1n | hfx10r1n | hrx10r1n => kernel_rfl
            case hQx10r1n => exact fun _ _ _ h => h
            case hwx10r1n => rfl
            case hyx10r1n =>
              intro W hW
              go_simp
              try with_reducible rfl
            simp only [Act.put, List.setIfInBounds_toArray, List.set_cons_succ, List.set_cons_zero]
            refine' wpAnyH_take (i := 12) ?h1x12r1n ?hsx12r1n ?hfx12r1n ?hrx12r1n ?hQx12r1n (Or.inl ⟨?hwx12r1n, ?hyx12r1n⟩) hS ?restx12r1n
            case h1x12r1n => (simp only [List.getElem?_toArray, List.getElem?_cons_succ, List.getElem?_cons_zero]; rfl)
            case hsx12r1n | hfx12r1n | hrx12r1n => kernel_rfl
            case hQx12r1n => exact fun _ _ _ h => h
            case hwx12r1n => rfl
            case hyx12r1n =>
              intro W hW
              go_simp
              try with_reducible rfl
            simp only [Act.put, List.setIfInBounds_toArray, List.set_cons_succ, List.set_cons_zero]
            refine' wpAnyH_take (i := 4) ?h1x4r1n ?hsx4r1n ?hfx4r1n ?hrx4r1n ?hQx4r1n (Or.inl ⟨?hwx4r1n, ?hyx4r1n⟩) hS ?restx4r1n
            case h1x4r1n => (simp only [List.getElem?_toArray, List.getElem?_cons_succ, List.getElem?_cons_zero]; rfl)
            case hsx4r1n | hfx4r1n | hrx4r1n => kernel_rfl
            case hQx4r1n => exact fun _ _ _ h => h
            case hwx4r1n => rfl
            case hyx4r1n =>
              intro W hW
              have cx := (hW.cell (p := ⟨w.heap.size, 1, none⟩) (blk_lt GR0.out)).trans ((cell_row GR0.out 1).trans O1.out)
              go_simp
              try with_reducible rfl
            simp only [Act.put, List.setIfInBounds_toArray, List.set_cons_succ, List.set_cons_zero]
            refine' wpAnyH_take (i := 6) ?h1x6r1n ?hsx6r1n ?hfx6r1n ?hrx6r1n ?hQx6r1n (Or.inl ⟨?hwx6r1n, ?hyx6r1n⟩) hS ?restx6r1n
            case h1x6r1n => (simp only [List.getElem?_toArray, List.getElem?_cons_succ, List.getElem?_cons_zero]; rfl)
            case hsx6r1n | hfx6r1n | hrx6r1n => kernel_rfl
            case hQx6r1n => exact fun _ _ _ h => h
            case hwx6r1n => rfl
            case hyx6r1n =>
              intro W hW
              go_simp
              try with_reducible rfl
            simp only [Act.put, List.setIfInBounds_toArray, List.set_cons_succ, List.set_cons_zero]
            refine' wpAnyH_take (i := 11) ?h1x11r1n ?hsx11r1n ?hfx11r1n ?hrx11r1n ?hQx11r1n (Or.inl ⟨?hwx11r1n, ?hyx11r1n⟩) hS ?restx11r1n
            case h1x11r1n => (simp only [List.getElem?_toArray, List.getElem?_cons_succ, List.getElem?_cons_zero]; rfl)
            case hsx11r1n | hfx11r1n | hrx11r1n => kernel_rfl
            case hQx11r1n => exact fun _ _ _ h => h
            case hwx11r1n => rfl
            case hyx11r1n =>
              intro W hW
              have cx := (hW.cell (p := ⟨w.heap.size, 1, none⟩) (blk_lt GR0.out)).trans ((cell_row GR0.out 1).trans O1.out)
              go_simp
              try with_reducible rfl
            simp only [Act.put, List.setIfInBounds_toArray, List.set_cons_succ, List.set_cons_zero]
            refine' wpAnyH_take (i := 7) ?h1x7r1n ?hsx7r1n ?hfx7r1n ?hrx7r1n ?hQx7r1n (Or.inl ⟨?hwx7r1n, ?hyx7r1n⟩) hS ?restx7r1n
            case h1x7r1n => (simp only [List.getElem?_toArray, List.getElem?_cons_succ, List.getElem?_cons_zero]; rfl)
            case hsx7r1n | hfx7r1n | hrx7r1n => kernel_rfl
            case hQx7r1n => exact fun _ _ _ h => h
            case hwx7r1n => rfl
            case hyx7r1n =>
              intro W hW
              go_simp
              try with_reducible rfl
            simp only [Act.put, List.setIfInBounds_toArray, List.set_cons_succ, List.set_cons_zero]
            refine' wpAnyH_take (i := 13) ?h1x13r1n ?hsx13r1n ?hfx13r1n ?hrx13r1n ?hQx13r1n (Or.inl ⟨?hwx13r1n, ?hyx13r1n⟩) hS ?restx13r1n
            case h1x13r1n => (simp only [List.getElem?_toArray, List.getElem?_cons_succ, List.getElem?_cons_zero]; rfl)
            case hsx13r1n | hfx13r1n | hrx13r1n => kernel_rfl
            case hQx13r1n => exact fun _ _ _ h => h
            case hwx13r1n => rfl
            case hyx13r1n =>
              intro W hW
              go_simp
              try with_reducible rfl
            simp only [Act.put, List.setIfInBounds_toArray, List.set_cons_succ, List.set_cons_zero]
            refine' wpAnyH_take (i := 8) ?h1x8r1n ?hsx8r1n ?hfx8r1n ?hrx8r1n ?hQx8r1n (Or.inl ⟨?hwx8r1n, ?hyx8r1n⟩) hS ?restx8r1n
            case h1x8r1n => (simp only [List.getElem?_toArray, List.getElem?_cons_succ, List.getElem?_cons_zero]; rfl)
            case hsx8r1n | hfx8r1n | hrx8r1n => kernel_rfl
            case hQx8r1n => exact fun _ _ _ h => h
            case hwx8r1n => rfl
            case hyx8r1n =>
              intro W hW
              go_simp
              try with_reducible rfl
            simp only [Act.put, List.setIfInBounds_toArray, List.set_cons_succ, List.set_cons_zero]
            refine' wpAnyH_take (i := 14) ?h1x14r1n ?hsx14r1n ?hfx14r1n ?hrx14r1n ?hQx14r1n (Or.inl ⟨?hwx14r1n, ?hyx14r1n⟩) hS ?restx14r1n
            case h1x14r1n => (simp only [List.getElem?_toArray, List.getElem?_cons_succ, List.getElem?_cons_zero]; rfl)
            case hsx14r1n | hfx14r1n | hrx14r1n => kernel_rfl
            case hQx14r1n => exact fun _ _ _ h => h
            case hwx14r1n => rfl
            case hyx14r1n =>
              intro W hW
              go_simp
              try with_reducible rfl
            simp only [Act.put, List.setIfInBounds_toArray, List.set_cons_succ, List.set_cons_zero]
            refine' wpAnyH_take (i := 9) ?h1x9r1n ?hsx9r1n ?hfx9r1n ?hrx9r1n ?hQx9r1n (Or.inl ⟨?hwx9r1n, ?hyx9r1n⟩) hS ?restx9r1n
            case h1x9r1n => (simp only [List.getElem?_toArray, List.getElem?_cons_succ, List.getElem?_cons_zero]; rfl)
            case hsx9r1n | hfx9r1n | hrx9r1n => kernel_rfl
            case hQx9r1n => exact fun _ _ _ h => h
            case hwx9r1n => rfl
            case hyx9r1n =>
              intro W hW
              have cx := (CP0.out.below hW).2
              go_simp
              try with_reducible rfl
            simp only [Act.put, List.setIfInBounds_toArray, List.set_cons_succ, List.set_cons_zero]
            refine' wpAnyH_take (i := 15) ?h1x15r1n ?hsx15r1n ?hfx15r1n ?hrx15r1n ?hQx15r1n (Or.inl ⟨?hwx15r1n, ?hyx15r1n⟩) hS ?restx15r1n
            case h1x15r1n => (simp only [List.getElem?_toArray, List.getElem?_cons_succ, List.getElem?_cons_zero]; rfl)
            case hsx15r1n | hfx15r1n | hrx15r1n => kernel_rfl
            case hQx15r1n => exact fun _ _ _ h => h
            case hwx15r1n => rfl
            case hyx15r1n =>
              intro W hW
              have cx := (CK0.out.below hW).2
              go_simp
              try with_reducible rfl
            simp only [Act.put, List.setIfInBounds_toArray, List.set_cons_succ, List.set_cons_zero]
            refine' wpAnyH_take (i := 16) ?h1x16r1n ?hsx16r1n ?hfx16r1n ?hrx16r1n ?hQx16r1n (Or.inl ⟨?hwx16r1n, ?hyx16r1n⟩) hS ?restx16r1n
            case h1x16r1n => (simp only [List.getElem?_toArray, List.getElem?_cons_succ, List.getElem?_cons_zero]; rfl)
            case hsx16r1n | hfx16r1n | hrx16r1n => kernel_rfl
            case hQx16r1n => exact fun _ _ _ h => h
            case hwx16r1n => rfl
            case hyx16r1n =>
              intro W hW
              go_simp
              try with_reducible rfl
            simp only [Act.put, List.setIfInBounds_toArray, List.set_cons_succ, List.set_cons_zero]
            refine' wpAnyH_take (i := 17) ?h1x17r1n ?hsx17r1n ?hfx17r1n ?hrx17r1n ?hQx17r1n (Or.inl ⟨?hwx17r1n, ?hyx17r1n⟩) hS ?restx17r1n
            case h1x17r1n => (simp only [List.getElem?_toArray, List.getElem?_cons_succ, List.getElem?_cons_zero]; rfl)
            case hsx17r1n | hfx17r1n | hrx17r1n => kernel_rfl
            case hQx17r1n => exact fun _ _ _ h => h
            case hwx17r1n => rfl
            case hyx17r1n =>
              intro W hW
              go_simp
              try with_reducible rfl
            simp only [Act.put, List.setIfInBounds_toArray, List.set_cons_succ, List.set_cons_zero]
            refine' wpAnyH_take (i := 18) ?h1x18r1n ?hsx18r1n ?hfx18r1n ?hrx18r1n ?hQx18r1n (Or.inl ⟨?hwx18r1n, ?hyx18r1n⟩) hS ?restx18r1n
            case h1x18r1n => (simp only [List.getElem?_toArray, List.getElem?_cons_succ, List.getElem?_cons_zero]; rfl)
            case hsx18r1n | hfx18r1n | hrx18r1n => kernel_rfl
            case hQx18r1n => exact fun _ _ _ h => h
            case hwx18r1n => rfl
            case hyx18r1n =>
              intro W hW
              go_simp
              try with_reducible rfl
            simp only [Act.put, List.setIfInBounds_toArray, List.set_cons_succ, List.set_cons_zero]
            refine' wpAnyH_take (i := 19) ?h1x19r1n ?hsx19r1n ?hfx19r1n ?hrx19r1n ?hQx19r1n (Or.inl ⟨?hwx19r1n, ?hyx19r1n⟩) hS ?restx19r1n
            case h1x19r1n => (simp only [List.getElem?_toArray, List.getElem?_cons_succ, List.getElem?_cons_zero]; rfl)
            case hsx19r1n | hfx19r1n | hrx19r1n => kernel_rfl
            case hQx19r1n => exact fun _ _ _ h => h
            case hwx19r1n => rfl
            case hyx19r1n =>
              intro W hW
              go_simp
              try with_reducible rfl
            simp only [Act.put, List.setIfInBounds_toArray, List.set_cons_succ, List.set_cons_zero]
            refine' wpAnyH_take (i := 21) ?h1x21r1n ?hsx21r1n ?hfx21r1n ?hrx21r1n ?hQx21r1n (Or.inl ⟨?hwx21r1n, ?hyx21r1n⟩) hS ?restx21r1n
            case h1x21r1n => (simp only [List.getElem?_toArray, List.getElem?_cons_succ, List.getElem?_cons_zero]; rfl)
            case hsx21r1n | hfx21r1n | hrx21r1n => kernel_rfl
            case hQx21r1n => exact fun _ _ _ h => h
            case hwx21r1n => rfl
            case hyx21r1n =>
              intro W hW
              go_simp
              try with_reducible rfl
            simp only [Act.put, List.setIfInBounds_toArray, List.set_cons_succ, List.set_cons_zero]
            refine' wpAnyH_take (i := 26) ?h1x26r1n ?hsx26r1n ?hfx26r1n ?hrx26r1n ?hQx26r1n (Or.inl ⟨?hwx26r1n, ?hyx26r1n⟩) hS ?restx26r1n
            case h1x26r1n => (simp only [List.getElem?_toArray, List.getElem?_cons_succ, List.getElem?_cons_zero]; rfl)
            case hsx26r1n | hfx26r1n | hrx26r1n => kernel_rfl
            case hQx26r1n => exact fun _ _ _ h => h
            case hwx26r1n => rfl
            case hyx26r1n =>
              intro W hW
              go_simp
              try with_reducible rfl
            simp only [Act.put, List.setIfInBounds_toArray, List.set_cons_succ, List.set_cons_zero]
            refine' wpAnyH_take (i := 20) ?h1x20r1n ?hsx20r1n ?hfx20r1n ?hrx20r1n ?hQx20r1n (Or.inl ⟨?hwx20r1n, ?hyx20r1n⟩) hS ?restx20r1n
            case h1x20r1n => (simp only [List.getElem?_toArray, List.getElem?_cons_succ, List.getElem?_cons_zero]; rfl)
            case hsx20r1n | hfx20r1n | hrx20r1n => kernel_rfl
            case hQx20r1n => exact fun _ _ _ h => h
            case hwx20r1n => rfl
            case hyx20r1n =>
              intro W hW
              have cx := (hW.cell (p := ⟨w.heap.size, 1, none⟩) (blk_lt GR0.out)).trans ((cell_row GR0.out 1).trans O1.out)
              go_simp
              try with_reducible rfl
            simp only [Act.put, List.setIfInBounds_toArray, List.set_cons_succ, List.set_cons_zero]
            refine' wpAnyH_take (i := 27) ?h1x27r1n ?hsx27r1n ?hfx27r1n ?hrx27r1n ?hQx27r1n (Or.inl ⟨?hwx27r1n, ?hyx27r1n⟩) hS ?restx27r1n
            case h1x27r1n => (simp only [List.getElem?_toArray, List.getElem?_cons_succ, List.getElem?_cons_zero]; rfl)
            case hsx27r1n | hfx27r1n | hrx27r1n => kernel_rfl
            case hQx27r1n => exact fun _ _ _ h => h
            case hwx27r1n => rfl
            case hyx27r1n =>
              intro W hW
              have cx := (hW.cell (p := ⟨w.heap.size, 0, none⟩) (blk_lt GR0.out)).trans ((cell_row GR0.out 0).trans O0.out)
              go_simp
              try with_reducible rfl
            simp only [Act.put, List.setIfInBounds_toArray, List.set_cons_succ, List.set_cons_zero]
            refine' wpAnyH_take (i := 22) ?h1x22r1n ?hsx22r1n ?hfx22r1n ?hrx22r1n ?hQx22r1n (Or.inl ⟨?hwx22r1n, ?hyx22r1n⟩) hS ?restx22r1n
            case h1x22r1n => (simp only [List.getElem?_toArray, List.getElem?_cons_succ, List.getElem?_cons_zero]; rfl)
            case hsx22r1n | hfx22r1n | hrx22r1n => kernel_rfl
            case hQx22r1n => exact fun _ _ _ h => h
            case hwx22r1n => rfl
            case hyx22r1n =>
              intro W hW
              go_simp
              try with_reducible rfl
            simp only [Act.put, List.setIfInBounds_toArray, List.set_cons_succ, List.set_cons_zero]
            refine' wpAnyH_take (i := 23) ?h1x23r1n ?hsx23r1n ?hfx23r1n ?hrx23r1n ?hQx23r1n (Or.inl ⟨?hwx23r1n, ?hyx23r1n⟩) hS ?restx23r1n
            case h1x23r1n => (simp only [List.getElem?_toArray, List.getElem?_cons_succ, List.getElem?_cons_zero]; rfl)
            case hsx23r1n | hfx23r1n | hrx23r1n => kernel_rfl
            case hQx23r1n => exact fun _ _ _ h => h
            case hwx23r1n => rfl
            case hyx23r1n =>
              intro W hW
              go_simp
              try with_reducible rfl
            simp only [Act.put, List.setIfInBounds_toArray, List.set_cons_succ, List.set_cons_zero]
            refine' wpAnyH_take (i := 24) ?h1x24r1n ?hsx24r1n ?hfx24r1n ?hrx24r1n ?hQx24r1n (Or.inl ⟨?hwx24r1n, ?hyx24r1n⟩) hS ?restx24r1n
            case h1x24r1n => (simp only [List.getElem?_toArray, List.getElem?_cons_succ, List.getElem?_cons_zero]; rfl)
            case hsx24r1n | hfx24r1n | hrx24r1n => kernel_rfl
            case hQx24r1n => exact fun _ _ _ h => h
            case hwx24r1n => rfl
            case hyx24r1n =>
              intro W hW
              have cx := (CU0.out.below hW).2
              go_simp
              try with_reducible rfl
            simp only [Act.put, List.setIfInBounds_toArray, List.set_cons_succ, List.set_cons_zero]
            refine' wpAnyH_take (i := 25) ?h1x25r1n ?hsx25r1n ?hfx25r1n ?hrx25r1n ?hQx25r1n (Or.inl ⟨?hwx25r1n, ?hyx25r1n⟩) hS ?restx25r1n
            case h1x25r1n => (simp only [List.getElem?_toArray, List.getElem?_cons_succ, List.getElem?_cons_zero]; rfl)
            case hsx25r1n | hfx25r1n | hrx25r1n => kernel_rfl
            case hQx25r1n => exact fun _ _ _ h => h
            case hwx25r1n => rfl
            case hyx25r1n =>
              intro W hW
              go_simp
              try with_reducible rfl
            simp only [Act.put, List.setIfInBounds_toArray, List.set_cons_succ, List.set_cons_zero]
            refine wpAnyH_ready (rs := [28]) (by kernel_rfl) (by simp) ?_
            refine' (AllReadyH.cons ?hoc28r1n (fun K hK => ?stc28r1n) AllReadyH.nil)
            case hoc28r1n => (simp only [List.getElem?_toArray, List.getElem?_cons_succ, List.getElem?_cons_zero]; rfl)
            go_simp
            refine (size_false Wr1ns).mono ?_
            rintro e Wr1nx28 ⟨rfl, hb⟩
            go_wp2_with fail
            refine hK.out _ _ (hS.trans (hb.mono hS.size)) (fun hHeld => ?_)
            clear hK K
            try simp only [Act.put, List.setIfInBounds_toArray, List.set_cons_succ, List.set_cons_zero]
            clear hS
            have hS := hHeld
            clear hHeld
            clear hb
            refine' wpAnyH_take (i := 29) ?h1x29r1nx28 ?hsx29r1nx28 ?hfx29r1nx28 ?hrx29r1nx28 ?hQx29r1nx28 (Or.inl ⟨?hwx29r1nx28, ?hyx29r1nx28⟩) hS ?restx29r1nx28
            case h1x29r1nx28 => (simp only [List.getElem?_toArray, List.getElem?_cons_succ, List.getElem?_cons_zero]; rfl)
            case hsx29r1nx28 | hfx29r1nx28 | hrx29r1nx28 => kernel_rfl
            case hQx29r1nx28 => exact fun _ _ _ h => h
            case hwx29r1nx28 => rfl
            case hyx29r1nx28 =>
              intro W hW
              go_simp
              try with_reducible rfl
            simp only [Act.put, List.setIfInBounds_toArray, List.set_cons_succ, List.set_cons_zero]
            refine' wpAnyH_take (i := 30) ?h1x30r1nx28 ?hsx30r1nx28 ?hfx30r1nx28 ?hrx30r1nx28 ?hQx30r1nx28 (Or.inl ⟨?hwx30r1nx28, ?hyx30r1nx28⟩) hS ?restx30r1nx28
            case h1x30r1nx28 => (simp only [List.getElem?_toArray, List.getElem?_cons_succ, List.getElem?_cons_zero]; rfl)
            case hsx30r1nx28 | hfx30r1nx28 | hrx30r1nx28 => kernel_rfl
            case hQx30r1nx28 => exact fun _ _ _ h => h
            case hwx30r1nx28 => rfl
            case hyx30r1nx28 =>
              intro W hW
              go_simp
              try with_reducible rfl
            simp only [Act.put, List.setIfInBounds_toArray, List.set_cons_succ, List.set_cons_zero]
            refine wpAnyH_done (by kernel_rfl) ?_ _
            have BE := Lib.hid (B1.out.trans ((HB.out.trans (hS.mono HB.out.size)).mono B1.out.size))
            clear hS
            go_wp2_with fail
            go_ret
            exact ⟨by rw [NO.out _ HLT.out BAD.out]; rfl, BE.out⟩
        · have hk2 : key ≤ kp := by omega
          have BAD : Hid (gdD x (i1 + 1) = false) := by show _ = _; rw [GDI.out, decide_eq_false hk]; rfl
          clear hk
          have GR0 := GR
          have CK0 := CK
          have CU0 := CU
          have CP0 := CP
          refine wp_region_held_drew (S := fun W => Below wr.heap.size wr W) (by kernel_rfl) ((Below.refl _ _).drew) (fun hS => ?_)
          have hb0 : Below wr.heap.size wr wr.drew := (Below.refl _ _).drew
          clear hb0 
          generalize wr.drew = Wr1ks at hS  ⊢
          refine' wpAnyH_take (i := 0) ?h1x0r1k ?hsx0r1k ?hfx0r1k ?hrx0r1k ?hQx0r1k (Or.inl ⟨?hwx0r1k, ?hyx0r1k⟩) hS ?restx0r1k
          case h1x0r1k => (simp only [List.getElem?_toArray, List.getElem?_cons_zero]; rfl)
          case hsx0r1k | hfx0r1k | hrx0r1k => kernel_rfl
          case hQx0r1k => exact fun _ _ _ h => h
          case hwx0r1k => rfl
          case hyx0r1k =>
            intro W hW
            go_simp
            try with_reducible rfl
          simp only [Act.put, List.setIfInBounds_toArray, List.set_cons_succ, List.set_cons_zero]
          refine' wpAnyH_take (i := 1) ?h1x1r1k ?hsx1r1k ?hfx1r1k ?hrx1r1k ?hQx1r1k (Or.inl ⟨?hwx1r1k, ?hyx1r1k⟩) hS ?restx1r1k
          case h1x1r1k => (simp only [List.getElem?_toArray, List.getElem?_cons_succ, List.getElem?_cons_zero]; rfl)
          case hsx1r1k | hfx1r1k | hrx1r1k => kernel_rfl
          case hQx1r1k => exact fun _ _ _ h => h
          case hwx1r1k => rfl
          case hyx1r1k =>
            intro W hW
            go_simp
            try with_reducible rfl
          simp only [Act.put, List.setIfInBounds_toArray, List.set_cons_succ, List.set_cons_zero]
          refine' wpAnyH_take (i := 2) ?h1x2r1k ?hsx2r1k ?hfx2r1k ?hrx2r1k ?hQx2r1k (Or.inl ⟨?hwx2r1k, ?hyx2r1k⟩) hS ?restx2r1k
          case h1x2r1k => (simp only [List.getElem?_toArray, List.getElem?_cons_succ, List.getElem?_cons_zero]; rfl)
          case hsx2r1k | hfx2r1k | hrx2r1k => kernel_rfl
          case hQx2r1k => exact fun _ _ _ h => h
          case hwx2r1k => rfl
          case hyx2r1k =>
            intro W hW
            go_simp
            try with_reducible rfl
          simp only [Act.put, List.setIfInBounds_toArray, List.set_cons_succ, List.set_cons_zero]
          refine' wpAnyH_take (i := 3) ?h1x3r1k ?hsx3r1k ?hfx3r1k ?hrx3r1k ?hQx3r1k (Or.inl ⟨?hwx3r1k, ?hyx3r1k⟩) hS ?restx3r1k
          case h1x3r1k => (simp only [List.getElem?_toArray, List.getElem?_cons_succ, List.getElem?_cons_zero]; rfl)
          case hsx3r1k | hfx3r1k | hrx3r1k => kernel_rfl
          case hQx3r1k => exact fun _ _ _ h => h
          case hwx3r1k => rfl
          case hyx3r1k =>
            intro W hW
            go_simp
            try with_reducible rfl
          simp only [Act.put, List.setIfInBounds_toArray, List.set_cons_succ, List.set_cons_zero]
          refine' wpAnyH_take (i := 5) ?h1x5r1k ?hsx5r1k ?hfx5r1k ?hrx5r1k ?hQx5r1k (Or.inl ⟨?hwx5r1k, ?hyx5r1k⟩) hS ?restx5r1k
          case h1x5r1k => (simp only [List.getElem?_toArray, List.getElem?_cons_succ, List.getElem?_cons_zero]; rfl)
          case hsx5r1k | hfx5r1k | hrx5r1k => kernel_rfl
          case hQx5r1k => exact fun _ _ _ h => h
          case hwx5r1k => rfl
          case hyx5r1k =>
            intro W hW
            go_simp
            try with_reducible rfl
          simp only [Act.put, List.setIfInBounds_toArray, List.set_cons_succ, List.set_cons_zero]
          refine' wpAnyH_take (i := 10) ?h1x10r1k ?hsx10r1k ?hfx10r1k ?hrx10r1k ?hQx10r1k (Or.inl ⟨?hwx10r1k, ?hyx10r1k⟩) hS ?restx10r1k
          case h1x10r1k => (simp only [List.getElem?_toArray, List.getElem?_cons_succ, List.getElem?_cons_zero]; rfl)
          case hsx10r1k | hfx10r1k | hrx10r1k => kernel_rfl
          case hQx10r1k => exact fun _ _ _ h => h
          case hwx10r1k => rfl
          case hyx10r1k =>
            intro W hW
            go_simp
            try with_reducible rfl
          simp only [Act.put, List.setIfInBounds_toArray, List.set_cons_succ, List.set_cons_zero]
          refine' wpAnyH_take (i := 12) ?h1x12r1k ?hsx12r1k ?hfx12r1k ?hrx12r1k ?hQx12r1k (Or.inl ⟨?hwx12r1k, ?hyx12r1k⟩) hS ?restx12r1k
          case h1x12r1k => (simp only [List.getElem?_toArray, List.getElem?_cons_succ, List.getElem?_cons_zero]; rfl)
          case hsx12r1k | hfx12r1k | hrx12r1k => kernel_rfl
          case hQx12r1k => exact fun _ _ _ h => h
          case hwx12r1k => rfl
          case hyx12r1k =>
            intro W hW
            go_simp
            try with_reducible rfl
          simp only [Act.put, List.setIfInBounds_toArray, List.set_cons_succ, List.set_cons_zero]
          refine' wpAnyH_take (i := 4) ?h1x4r1k ?hsx4r1k ?hfx4r1k ?hrx4r1k ?hQx4r1k (Or.inl ⟨?hwx4r1k, ?hyx4r1k⟩) hS ?restx4r1k
          case h1x4r1k => (simp only [List.getElem?_toArray, List.getElem?_cons_succ, List.getElem?_cons_zero]; rfl)
          case hsx4r1k | hfx4r1k | hrx4r1k => kernel_rfl
          case hQx4r1k => exact fun _ _ _ h => h
          case hwx4r1k => rfl
          case hyx4r1k =>
            intro W hW
            have cx := (hW.cell (p := ⟨w.heap.size, 1, none⟩) (blk_lt GR0.out)).trans ((cell_row GR0.out 1).trans O1.out)
            go_simp
            try with_reducible rfl
          simp only [Act.put, List.setIfInBounds_toArray, List.set_cons_succ, List.set_cons_zero]
          refine' wpAnyH_take (i := 6) ?h1x6r1k ?hsx6r1k ?hfx6r1k ?hrx6r1k ?hQx6r1k (Or.inl ⟨?hwx6r1k, ?hyx6r1k⟩) hS ?restx6r1k
          case h1x6r1k => (simp only [List.getElem?_toArray, List.getElem?_cons_succ, List.getElem?_cons_zero]; rfl)
          case hsx6r1k | hfx6r1k | hrx6r1k => kernel_rfl
          case hQx6r1k => exact fun _ _ _ h => h
          case hwx6r1k => rfl
          case hyx6r1k =>
            intro W hW
            go_simp
            try with_reducible rfl
          simp only [Act.put, List.setIfInBounds_toArray, List.set_cons_succ, List.set_cons_zero]
          refine' wpAnyH_take (i := 11) ?h1x11r1k ?hsx11r1k ?hfx11r1k ?hrx11r1k ?hQx11r1k (Or.inl ⟨?hwx11r1k, ?hyx11r1k⟩) hS ?restx11r1k
          case h1x11r1k => (simp only [List.getElem?_toArray, List.getElem?_cons_succ, List.getElem?_cons_zero]; rfl)
          case hsx11r1k | hfx11r1k | hrx11r1k => kernel_rfl
          case hQx11r1k => exact fun _ _ _ h => h
          case hwx11r1k => rfl
          case hyx11r1k =>
            intro W hW
            have cx := (hW.cell (p := ⟨w.heap.size, 1, none⟩) (blk_lt GR0.out)).trans ((cell_row GR0.out 1).trans O1.out)
            go_simp
            try with_reducible rfl
          simp only [Act.put, List.setIfInBounds_toArray, List.set_cons_succ, List.set_cons_zero]
          refine' wpAnyH_take (i := 7) ?h1x7r1k ?hsx7r1k ?hfx7r1k ?hrx7r1k ?hQx7r1k (Or.inl ⟨?hwx7r1k, ?hyx7r1k⟩) hS ?restx7r1k
          case h1x7r1k => (simp only [List.getElem?_toArray, List.getElem?_cons_succ, List.getElem?_cons_zero]; rfl)
          case hsx7r1k | hfx7r1k | hrx7r1k => kernel_rfl
          case hQx7r1k => exact fun _ _ _ h => h
          case hwx7r1k => rfl
          case hyx7r1k =>
            intro W hW
            go_simp
            try with_reducible rfl
          simp only [Act.put, List.setIfInBounds_toArray, List.set_cons_succ, List.set_cons_zero]
          refine' wpAnyH_take (i := 13) ?h1x13r1k ?hsx13r1k ?hfx13r1k ?hrx13r1k ?hQx13r1k (Or.inl ⟨?hwx13r1k, ?hyx13r1k⟩) hS ?restx13r1k
          case h1x13r1k => (simp only [List.getElem?_toArray, List.getElem?_cons_succ, List.getElem?_cons_zero]; rfl)
          case hsx13r1k | hfx13r1k | hrx13r1k => kernel_rfl
          case hQx13r1k => exact fun _ _ _ h => h
          case hwx13r1k => rfl
          case hyx13r1k =>
            intro W hW
            go_simp
            try with_reducible rfl
          simp only [Act.put, List.setIfInBounds_toArray, List.set_cons_succ, List.set_cons_zero]
          refine' wpAnyH_take (i := 8) ?h1x8r1k ?hsx8r1k ?hfx8r1k ?hrx8r1k ?hQx8r1k (Or.inl ⟨?hwx8r1k, ?hyx8r1k⟩) hS ?restx8r1k
          case h1x8r1k => (simp only [List.getElem?_toArray, List.getElem?_cons_succ, List.getElem?_cons_zero]; rfl)
          case hsx8r1k | hfx8r1k | hrx8r1k => kernel_rfl
          case hQx8r1k => exact fun _ _ _ h => h
          case hwx8r1k => rfl
          case hyx8r1k =>
            intro W hW
            go_simp
            try with_reducible rfl
          simp only [Act.put, List.setIfInBounds_toArray, List.set_cons_succ, List.set_cons_zero]
          refine' wpAnyH_take (i := 14) ?h1x14r1k ?hsx14r1k ?hfx14r1k ?hrx14r1k ?hQx14r1k (Or.inl ⟨?hwx14r1k, ?hyx14r1k⟩) hS ?restx14r1k
          case h1x14r1k => (simp only [List.getElem?_toArray, List.getElem?_cons_succ, List.getElem?_cons_zero]; rfl)
          case hsx14r1k | hfx14r1k | hrx14r1k => kernel_rfl
          case hQx14r1k => exact fun _ _ _ h => h
          case hwx14r1k => rfl
          case hyx14r1k =>
            intro W hW
            go_simp
            try with_reducible rfl
          simp only [Act.put, List.setIfInBounds_toArray, List.set_cons_succ, List.set_cons_zero]
          refine' wpAnyH_take (i := 9) ?h1x9r1k ?hsx9r1k ?hfx9r1k ?hrx9r1k ?hQx9r1k (Or.inl ⟨?hwx9r1k, ?hyx9r1k⟩) hS ?restx9r1k
          case h1x9r1k => (simp only [List.getElem?_toArray, List.getElem?_cons_succ, List.getElem?_cons_zero]; rfl)
          case hsx9r1k | hfx9r1k | hrx9r1k => kernel_rfl
          case hQx9r1k => exact fun _ _ _ h => h
          case hwx9r1k => rfl
          case hyx9r1k =>
            intro W hW
            have cx := (CP0.out.below hW).2
            go_simp
            try with_reducible rfl
          simp only [Act.put, List.setIfInBounds_toArray, List.set_cons_succ, List.set_cons_zero]
          refine' wpAnyH_take (i := 15) ?h1x15r1k ?hsx15r1k ?hfx15r1k ?hrx15r1k ?hQx15r1k (Or.inl ⟨?hwx15r1k, ?hyx15r1k⟩) hS ?restx15r1k
          case h1x15r1k => (simp only [List.getElem?_toArray, List.getElem?_cons_succ, List.getElem?_cons_zero]; rfl)
          case hsx15r1k | hfx15r1k | hrx15r1k => kernel_rfl
          case hQx15r1k => exact fun _ _ _ h => h
          case hwx15r1k => rfl
          case hyx15r1k =>
            intro W hW
            have cx := (CK0.out.below hW).2
            go_simp
            try with_reducible rfl
          simp only [Act.put, List.setIfInBounds_toArray, List.set_cons_succ, List.set_cons_zero]
          refine' wpAnyH_take (i := 16) ?h1x16r1k ?hsx16r1k ?hfx16r1k ?hrx16r1k ?hQx16r1k (Or.inl ⟨?hwx16r1k, ?hyx16r1k⟩) hS ?restx16r1k
          case h1x16r1k => (simp only [List.getElem?_toArray, List.getElem?_cons_succ, List.getElem?_cons_zero]; rfl)
          case hsx16r1k | hfx16r1k | hrx16r1k => kernel_rfl
          case hQx16r1k => exact fun _ _ _ h => h
          case hwx16r1k => rfl
          case hyx16r1k =>
            intro W hW
            go_simp
            try with_reducible rfl
          simp only [Act.put, List.setIfInBounds_toArray, List.set_cons_succ, List.set_cons_zero]
          refine' wpAnyH_take (i := 17) ?h1x17r1k ?hsx17r1k ?hfx17r1k ?hrx17r1k ?hQx17r1k (Or.inl ⟨?hwx17r1k, ?hyx17r1k⟩) hS ?restx17r1k
          case h1x17r1k => (simp only [List.getElem?_toArray, List.getElem?_cons_succ, List.getElem?_cons_zero]; rfl)
          case hsx17r1k | hfx17r1k | hrx17r1k => kernel_rfl
          case hQx17r1k => exact fun _ _ _ h => h
          case hwx17r1k => rfl
          case hyx17r1k =>
            intro W hW
            go_simp
            try with_reducible rfl
          simp only [Act.put, List.setIfInBounds_toArray, List.set_cons_succ, List.set_cons_zero]
          refine' wpAnyH_take (i := 18) ?h1x18r1k ?hsx18r1k ?hfx18r1k ?hrx18r1k ?hQx18r1k (Or.inl ⟨?hwx18r1k, ?hyx18r1k⟩) hS ?restx18r1k
          case h1x18r1k => (simp only [List.getElem?_toArray, List.getElem?_cons_succ, List.getElem?_cons_zero]; rfl)
          case hsx18r1k | hfx18r1k | hrx18r1k => kernel_rfl
          case hQx18r1k => exact fun _ _ _ h => h
          case hwx18r1k => rfl
          case hyx18r1k =>
            intro W hW
            go_simp
            try with_reducible rfl
          simp only [Act.put, List.setIfInBounds_toArray, List.set_cons_succ, List.set_cons_zero]
          refine' wpAnyH_take (i := 19) ?h1x19r1k ?hsx19r1k ?hfx19r1k ?hrx19r1k ?hQx19r1k (Or.inr ⟨?hwx19r1k, rfl⟩) hS ?restx19r1k
          case h1x19r1k => (simp only [List.getElem?_toArray, List.getElem?_cons_succ, List.getElem?_cons_zero]; rfl)
          case hsx19r1k | hfx19r1k | hrx19r1k => kernel_rfl
          case hQx19r1k => exact fun _ _ _ h => h
          case hwx19r1k => rfl
          simp only [Act.put, List.setIfInBounds_toArray, List.set_cons_succ, List.set_cons_zero]
          refine' wpAnyH_take (i := 20) ?h1x20r1k ?hsx20r1k ?hfx20r1k ?hrx20r1k ?hQx20r1k (Or.inr ⟨?hwx20r1k, rfl⟩) hS ?restx20r1k
          case h1x20r1k => (simp only [List.getElem?_toArray, List.getElem?_cons_succ, List.getElem?_cons_zero]; rfl)
          case hsx20r1k | hfx20r1k | hrx20r1k => kernel_rfl
          case hQx20r1k => exact fun _ _ _ h => h
          case hwx20r1k => rfl
          simp only [Act.put, List.setIfInBounds_toArray, List.set_cons_succ, List.set_cons_zero]
          refine' wpAnyH_take (i := 21) ?h1x21r1k ?hsx21r1k ?hfx21r1k ?hrx21r1k ?hQx21r1k (Or.inr ⟨?hwx21r1k, rfl⟩) hS ?restx21r1k
          case h1x21r1k => (simp only [List.getElem?_toArray, List.getElem?_cons_succ, List.getElem?_cons_zero]; rfl)
          case hsx21r1k | hfx21r1k | hrx21r1k => kernel_rfl
          case hQx21r1k => exact fun _ _ _ h => h
          case hwx21r1k => rfl
          simp only [Act.put, List.setIfInBounds_toArray, List.set_cons_succ, List.set_cons_zero]
          refine' wpAnyH_take (i := 22) ?h1x22r1k ?hsx22r1k ?hfx22r1k ?hrx22r1k ?hQx22r1k (Or.inr ⟨?hwx22r1k, rfl⟩) hS ?restx22r1k
          case h1x22r1k => (simp only [List.getElem?_toArray, List.getElem?_cons_succ, List.getElem?_cons_zero]; rfl)
          case hsx22r1k | hfx22r1k | hrx22r1k => kernel_rfl
          case hQx22r1k => exact fun _ _ _ h => h
          case hwx22r1k => rfl
          simp only [Act.put, List.setIfInBounds_toArray, List.set_cons_succ, List.set_cons_zero]
          refine' wpAnyH_take (i := 23) ?h1x23r1k ?hsx23r1k ?hfx23r1k ?hrx23r1k ?hQx23r1k (Or.inr ⟨?hwx23r1k, rfl⟩) hS ?restx23r1k
          case h1x23r1k => (simp only [List.getElem?_toArray, List.getElem?_cons_succ, List.getElem?_cons_zero]; rfl)
          case hsx23r1k | hfx23r1k | hrx23r1k => kernel_rfl
          case hQx23r1k => exact fun _ _ _ h => h
          case hwx23r1k => rfl
          simp only [Act.put, List.setIfInBounds_toArray, List.set_cons_succ, List.set_cons_zero]
          refine' wpAnyH_take (i := 24) ?h1x24r1k ?hsx24r1k ?hfx24r1k ?hrx24r1k ?hQx24r1k (Or.inr ⟨?hwx24r1k, rfl⟩) hS ?restx24r1k
          case h1x24r1k => (simp only [List.getElem?_toArray, List.getElem?_cons_succ, List.getElem?_cons_zero]; rfl)
          case hsx24r1k | hfx24r1k | hrx24r1k => kernel_rfl
          case hQx24r1k => exact fun _ _ _ h => h
          case hwx24r1k => rfl
          simp only [Act.put, List.setIfInBounds_toArray, List.set_cons_succ, List.set_cons_zero]
          refine' wpAnyH_take (i := 25) ?h1x25r1k ?hsx25r1k ?hfx25r1k ?hrx25r1k ?hQx25r1k (Or.inr ⟨?hwx25r1k, rfl⟩) hS ?restx25r1k
          case h1x25r1k => (simp only [List.getElem?_toArray, List.getElem?_cons_succ, List.getElem?_cons_zero]; rfl)
          case hsx25r1k | hfx25r1k | hrx25r1k => kernel_rfl
          case hQx25r1k => exact fun _ _ _ h => h
          case hwx25r1k => rfl
          simp only [Act.put, List.setIfInBounds_toArray, List.set_cons_succ, List.set_cons_zero]
          refine' wpAnyH_take (i := 26) ?h1x26r1k ?hsx26r1k ?hfx26r1k ?hrx26r1k ?hQx26r1k (Or.inr ⟨?hwx26r1k, rfl⟩) hS ?restx26r1k
          case h1x26r1k => (simp only [List.getElem?_toArray, List.getElem?_cons_succ, List.getElem?_cons_zero]; rfl)
          case hsx26r1k | hfx26r1k | hrx26r1k => kernel_rfl
          case hQx26r1k => exact fun _ _ _ h => h
          case hwx26r1k => rfl
          simp only [Act.put, List.setIfInBounds_toArray, List.set_cons_succ, List.set_cons_zero]
          refine' wpAnyH_take (i := 27) ?h1x27r1k ?hsx27r1k ?hfx27r1k ?hrx27r1k ?hQx27r1k (Or.inr ⟨?hwx27r1k, rfl⟩) hS ?restx27r1k
          case h1x27r1k => (simp only [List.getElem?_toArray, List.getElem?_cons_succ, List.getElem?_cons_zero]; rfl)
          case hsx27r1k | hfx27r1k | hrx27r1k => kernel_rfl
          case hQx27r1k => exact fun _ _ _ h => h
          case hwx27r1k => rfl
          simp only [Act.put, List.setIfInBounds_toArray, List.set_cons_succ, List.set_cons_zero]
          refine' wpAnyH_take (i := 28) ?h1x28r1k ?hsx28r1k ?hfx28r1k ?hrx28r1k ?hQx28r1k (Or.inr ⟨?hwx28r1k, rfl⟩) hS ?restx28r1k
          case h1x28r1k => (simp only [List.getElem?_toArray, List.getElem?_cons_succ, List.getElem?_cons_zero]; rfl)
          case hsx28r1k | hfx28r1k | hrx28r1k => kernel_rfl
          case hQx28r1k => exact fun _ _ _ h => h
          case hwx28r1k => rfl
          simp only [Act.put, List.setIfInBounds_toArray, List.set_cons_succ, List.set_cons_zero]
          refine' wpAnyH_take (i := 29) ?h1x29r1k ?hsx29r1k ?hfx29r1k ?hrx29r1k ?hQx29r1k (Or.inr ⟨?hwx29r1k, rfl⟩) hS ?restx29r1k
          case h1x29r1k => (simp only [List.getElem?_toArray, List.getElem?_cons_succ, List.getElem?_cons_zero]; rfl)
          case hsx29r1k | hfx29r1k | hrx29r1k => kernel_rfl
          case hQx29r1k => exact fun _ _ _ h => h
          case hwx29r1k => rfl
          simp only [Act.put, List.setIfInBounds_toArray, List.set_cons_succ, List.set_cons_zero]
          refine' wpAnyH_take (i := 30) ?h1x30r1k ?hsx30r1k ?hfx30r1k ?hrx30r1k ?hQx30r1k (Or.inl ⟨?hwx30r1k, ?hyx30r1k⟩) hS ?restx30r1k
          case h1x30r1k => (simp only [List.getElem?_toArray, List.getElem?_cons_succ, List.getElem?_cons_zero]; rfl)
          case hsx30r1k | hfx30r1k | hrx30r1k => kernel_rfl
          case hQx30r1k => exact fun _ _ _ h => h
          case hwx30r1k => rfl
          case hyx30r1k =>
            intro W hW
            go_simp
            try with_reducible rfl
          simp only [Act.put, List.setIfInBounds_toArray, List.set_cons_succ, List.set_cons_zero]
          refine wpAnyH_done (by kernel_rfl) ?_ _
          have BE := Lib.hid (B1.out.trans ((HB.out.trans (hS.mono HB.out.size)).mono B1.out.size))
          clear hS
          go_wp2_with fail
          go_ret
          exact ⟨by rw [NO.out _ HLT.out BAD.out]; rfl, BE.out⟩
    · have hge : ¬ (i : Int) < (L : Int) := by omega
      obtain rfl : i = L := by omega
      have RES := Lib.hid (EN.out HALL.out)
      have FB := Lib.hid (B1.out.trans (HB.out.mono B1.out.size))
      rw [EB.out] at RES
      by_cases q1 : 2 ≤ i
      · have q1i : (2 : Int) ≤ (i : Int) := by omega
        by_cases q2 : i ≤ 11
        · have q2i : (i : Int) ≤ 11 := by omega
          have RR : Hid (rightD x = true) := by show _ = _; rw [RES.out, decide_eq_true q1, decide_eq_true q2]; rfl
          clear q1 q2
          go_wp2_with fail
          go_ret
          exact ⟨by rw [RR.out]; rfl, FB.out⟩
        · have q2i : ¬ (i : Int) ≤ 11 := by omega
          have RR : Hid (rightD x = false) := by show _ = _; rw [RES.out, decide_eq_false q2, Bool.and_false]
          clear q1 q2
          go_wp2_with fail
          go_ret
          exact ⟨by rw [RR.out]; rfl, FB.out⟩
      · have q1i : ¬ (2 : Int) ≤ (i : Int) := by omega
        have RR : Hid (rightD x = false) := by show _ = _; rw [RES.out, decide_eq_false q1, Bool.false_and]
        clear q1
        go_wp2_with fail
        go_ret
        exact ⟨by rw [RR.out]; rfl, FB.out⟩
theorem rightDC (O : Array Value) (x : DN) (w : World) (hv : DM w (.agg O) x) (hm : x.l.length ≤ 100) : Calls Try.prog 11 #[.agg O] w fun e w' => e = .returned (.bool (rightD x)) ∧ Below w.heap.size w w' := by
  cases h : x.leaf with
  | true => exact right_true O x w hv h hm
  | false => exact right_false O x w hv h hm
end Go.Proofs.Ytnifaldgofmciaa
