/-
  Contracts of the functions that the statements of package aes go through: what must come of fixed calls. No condition.
-/
import Derived.Test.YtekffhopmicalaaAesQ
namespace Go.Proofs.Ytekffhopmicalaa
open Go.RowKit
/-- In a region that draws its order a row in the middle of a block is loaded. -/
theorem yieldsIf_load_at {P : Program} {ops : Array Oper} {S : World → Prop} {op : Oper} {a : Act} (hw : Region.wanted op (yielded ops a.tmps) = true) (ty : TypeId) (x : Operand) (ho : op.op = .load ty x)
    (b o : Nat) (hx : a.eval x = .pointer (some ⟨b, o, none⟩)) (cs : Array Value) (d : TypeDesc) (hS : ∀ w, S w → w.rangeAt b o cs.toList)
    (hu : P.underlying ty = some d) (hd : d.isRow = true) (hi : (P.info? ty).map (·.size) = some cs.size) : YieldsIf P ops S op (.agg cs) a :=
  yieldsIf_load_mid hw ty x ho b o hx cs.toList d hS hu hd (by rw [Array.length_toList]; exact hi)
theorem range_row {W : World} {g : Nat} {c : Array Value} {t : TypeId} {fr : Nat × Nat} (h : W.heap[g]? = some (.cells c t fr)) : W.rangeAt g 0 c.toList := fun j v hv => by
  rw [Nat.zero_add, cell_of_row _ _ _ _ _ _ h, ← hv]; simp
theorem zero23 : ∀ w, (zeroValue 23).run Try.prog w = .ok (.agg (ncells (zeros 32))) w := fun _ => by kernel_rfl
theorem z23 {b : List Nat} (h : b.length = 32) : (ncells (zeros 32)).size = (ncells b).size := by rw [nsize, nsize, zeros_len, h]
set_option maxRecDepth 100000 in
set_option maxHeartbeats 4000000 in
theorem alive5 (w : World) : Calls Try.prog 20 #[] w fun e w' => e = .returned (.bool true) ∧ Below w.heap.size w w' := by
  have zz := zero47
  have z3 := zero23
  obtain ⟨Z, hZ⟩ : ∃ Z, Z = ncells (zeros 16) := ⟨_, rfl⟩
  rw [← hZ] at zz
  obtain ⟨Y, hY⟩ : ∃ Z, Z = ncells (zeros 32) := ⟨_, rfl⟩
  rw [← hY] at z3
  have FZ : Hid (Z = ncells (fillr 16 (fun j => 17 * j) 0)) := by show _ = _; rw [fillr_zero, hZ]
  have FY : Hid (Y = ncells (fillr 32 id 0)) := by show _ = _; rw [fillr_zero, hY]
  have EZ : Hid (fillr 16 (fun j => 17 * j) 16 = fblk) := fillr_all _ _
  have EY : Hid (fillr 32 id 32 = fkey) := fillr_all _ _
  have JE : Hid (Bts 16 (enc fkey fblk)) := enc_bts fkey_bts fblk_bts
  have JX := enc_fixed
  have EN : Hid (∀ (g : Nat) (W : World), CIat W g (flat fkey) → Calls Try.prog 21 #[.pointer (some ⟨g, 0, none⟩), .agg (ncells fblk)] W fun e w' => e = .returned (.agg (ncells (enc fkey fblk))) ∧ Below W.heap.size W w') := fun g W h => encC fkey_bts fblk_bts g W h
  have DE : Hid (∀ (g : Nat) (W : World), CIat W g (flat fkey) → Calls Try.prog 22 #[.pointer (some ⟨g, 0, none⟩), .agg (ncells (enc fkey fblk))] W fun e w' => e = .returned (.agg (ncells fblk)) ∧ Below W.heap.size W w') := fun g W h => by
    have := decC fkey_bts (enc_bts fkey_bts fblk_bts) g W h
    rw [dec_enc fkey_bts fblk_bts] at this; exact this
  have NW : Hid (∀ W : World, Calls Try.prog 17 #[.agg (ncells fkey)] W (NewP W (flat fkey))) := fun W => newC fkey fkey_bts W
  have EQ : Hid (∀ W : World, (Op.equalIn 10000 37 (.agg (ncells fblk)) (.agg (ncells fblk))).run Try.prog W = .ok true W) := fun W => by
    have := eq37 fblk fblk fblk_bts fblk_bts W
    simpa using this
  have BB : Hid (fblk.length = 16) := fblk_bts.1
  have KB : Hid (fkey.length = 32) := fkey_bts.1
  have ZL : Hid (∀ l : List Nat, l.length = 16 → Z.size = (ncells l).size) := fun l hl => by rw [hZ]; exact z47 hl
  generalize flat fkey = F at *
  generalize enc fkey fblk = J at *
  generalize fkey = K0 at *
  generalize fblk = B0 at *
  have HJX := Lib.hid JX
  clear hZ hY JX
  go_enter Try.func20, Try.ntmps20
  go_wp2_with fail
  go_loopw [3] (fun vi wr => ∃ i : Nat, i ≤ 32 ∧ vi = .int .i64 i ∧ wr.heap[w.heap.size]? = some (.cells (ncells (fillr 32 id i)) 23 (0, 0)) ∧ wr.heap[w.heap.size + 1]? = some (.cells Z 37 (0, 0)) ∧ Below w.heap.size w wr) (fun vi _ => 32 - (intOf vi).toNat)
  case atStart =>
    refine ⟨0, by omega, rfl, ?_, heap_alloc2_new w _ _, ((Below.refl _ _).alloc (Nat.le_refl _) _).alloc (by simp) _⟩
    rw [← FY.out, Below.heap_alloc _ _ _ (by simp)]; exact heap_alloc_new w _
  case round =>
    obtain ⟨i, hi, rfl, hg0, hg1, hbel⟩ := hrel
    by_cases hlt : i < 32
    · have hi32 : (i : Int) < 32 := by omega
      have c1 := cell_at hg0 (fillr_len _ _ _) hlt
      have f1 := frozen_of_row wr w.heap.size i _ 23 hg0
      have e8 := u8nat i (by omega)
      have US := Lib.hid (fillr_set 32 id i)
      have G0 := Lib.hid hg0
      have G1 := Lib.hid hg1
      have HB := Lib.hid hbel
      clear hg0 hg1 hbel
      generalize at_ (fillr 32 id i) i = y at *
      go_wp2_with fail
      go_roundw
      case rel =>
        refine ⟨i + 1, by omega, by go_num, ?_, ?_, HB.out.setCell (by simp) _⟩
        · rw [heap_setCell_same _ _ _ _ _ _ G0.out, ← US.out]; rfl
        · rw [heap_setCell_other _ _ _ _ (by simp <;> omega)]; exact G1.out
      case measure => simp [intOf]; omega
    · obtain rfl : i = 32 := by omega
      rw [EY.out] at hg0
      obtain ⟨wo, rfl⟩ : ∃ wo : World, wo = wr := ⟨_, rfl⟩
      have G0 := Lib.hid hg0
      have G1 := Lib.hid hg1
      have HB := Lib.hid hbel
      clear hg0 hg1 hbel hi hlt
      go_wp2_with fail
      go_loopw [4] (fun vi wr => ∃ i : Nat, i ≤ 16 ∧ vi = .int .i64 i ∧ wr.heap[w.heap.size]? = some (.cells (ncells K0) 23 (0, 0)) ∧ wr.heap[w.heap.size + 1]? = some (.cells (ncells (fillr 16 (fun j => 17 * j) i)) 37 (0, 0)) ∧ Below w.heap.size w wr) (fun vi _ => 16 - (intOf vi).toNat)
      case atStart => exact ⟨0, by omega, rfl, G0.out, by rw [← FZ.out]; exact G1.out, HB.out⟩
      case round =>
        clear G0 G1 HB
        obtain ⟨i, hi, rfl, hg0, hg1, hbel⟩ := hrel
        by_cases hlt : i < 16
        · have hi16 : (i : Int) < 16 := by omega
          have c1 := cell_at hg1 (fillr_len _ _ _) hlt
          have f1 := frozen_of_row wr (w.heap.size + 1) i _ 37 hg1
          have e8 : IntKind.u8.wrap (17 * (i : Int)) = ((17 * i : Nat) : Int) := by rw [show (17 * (i : Int)) = ((17 * i : Nat) : Int) by omega]; exact u8nat (17 * i) (by omega)
          obtain ⟨m, hm⟩ : ∃ m, m = 17 * i := ⟨_, rfl⟩
          rw [← hm] at e8
          have US : Hid ((ncells (fillr 16 (fun j => 17 * j) i)).setIfInBounds i (.int .u8 (m : Nat)) = ncells (fillr 16 (fun j => 17 * j) (i + 1))) := by rw [hm]; exact fillr_set 16 (fun j => 17 * j) i
          have G0 := Lib.hid hg0
          have G1 := Lib.hid hg1
          have HB := Lib.hid hbel
          clear hg0 hg1 hbel hm
          generalize at_ (fillr 16 (fun j => 17 * j) i) i = y at *
          go_wp2_with fail
          go_roundw
          case rel =>
            refine ⟨i + 1, by omega, by go_num, ?_, ?_, HB.out.setCell (by simp <;> omega) _⟩
            · rw [heap_setCell_other _ _ _ _ (by simp)]; exact G0.out
            · rw [heap_setCell_same _ _ _ _ _ _ G1.out, ← US.out]
          case measure => simp [intOf]; omega
        · obtain rfl : i = 16 := by omega
          rw [EZ.out] at hg1
          have G0 := Lib.hid hg0
          have G1 := Lib.hid hg1
          have HB := Lib.hid hbel
          have LT0 := Lib.hid (blk_lt hg0)
          have LT1 := Lib.hid (blk_lt hg1)
          clear hg0 hg1 hbel hi hlt
          go_wp2_with (first
            | (refine wpList_load_row rfl 23 (.tmp 1) rfl w.heap.size rfl 23 (ncells K0) (0, 0) _ G0.out Try.underlying23 rfl (i23 KB.out) ?_))
          refine (NW.out _).mono ?_
          rintro e w1 ⟨g, rfl, hge, hci, hb⟩
          have C1 := Lib.hid hci
          have B1 := Lib.hid (HB.out.trans (hb.mono HB.out.size))
          have G11 := Lib.hid ((hb.block _ LT1.out).trans G1.out)
          clear hci hb hge G0 G1 HB LT0 LT1
          go_wp2_with (first
            | (refine wpList_load_row rfl 37 (.tmp 2) rfl (w.heap.size + 1) rfl 37 (ncells B0) (0, 0) _ G11.out Try.underlying37 rfl (i47 BB.out) ?_))
          refine (EN.out _ _ C1.out).mono ?_
          rintro e w2 ⟨rfl, hb⟩
          have C2 := Lib.hid (C1.out.below hb)
          have B2 := Lib.hid (B1.out.trans (hb.mono B1.out.size))
          have G12 := Lib.hid ((hb.block _ (blk_lt G11.out)).trans G11.out)
          clear hb C1 G11 B1
          have hn := heap_alloc_new w2 (.cells Z 37)
          have HN := Lib.hid hn
          clear hn
          go_wp2_with (first
            | (refine wpList_store_row rfl 37 (.tmp 6) (.tmp 30) rfl w2.heap.size (ncells J) rfl rfl 37 Z HN.out (i47 JE.out.1) (ZL.out _ JE.out.1) (none_ _) ?_))
          have b3 : Below w2.heap.size w2 ((w2.alloc (.cells Z 37)).setRow w2.heap.size (ncells J)) := ((Below.refl _ _).alloc (Nat.le_refl _) _).trans (below_row _ _ (Nat.le_refl _))
          have g6 : ((w2.alloc (.cells Z 37)).setRow w2.heap.size (ncells J)).heap[w2.heap.size]? = some (.cells (ncells J) 37 (0, 0)) := setRow_heap _ _ _ _ _ _ HN.out
          generalize (w2.alloc (.cells Z 37)).setRow w2.heap.size (ncells J) = w3 at *
          have C3 := Lib.hid (C2.out.below b3)
          have B3 := Lib.hid (B2.out.trans (b3.mono B2.out.size))
          have G13 := Lib.hid ((b3.block _ (blk_lt G12.out)).trans G12.out)
          have c0 := cell_at g6 JE.out.1 (show 0 < 16 by omega)
          have c1 := cell_at g6 JE.out.1 (show 1 < 16 by omega)
          have c2 := cell_at g6 JE.out.1 (show 2 < 16 by omega)
          have c3 := cell_at g6 JE.out.1 (show 3 < 16 by omega)
          rw [HJX.out.1] at c0
          rw [HJX.out.2.1] at c1
          rw [HJX.out.2.2.1] at c2
          rw [HJX.out.2.2.2] at c3
          have D0 : Hid (w3.cell? ⟨w2.heap.size, 0, none⟩ = some (.int .u8 142)) := c0
          have D1 : Hid (w3.cell? ⟨w2.heap.size, 1, none⟩ = some (.int .u8 162)) := c1
          have D2 : Hid (w3.cell? ⟨w2.heap.size, 2, none⟩ = some (.int .u8 183)) := c2
          have D3 : Hid (w3.cell? ⟨w2.heap.size, 3, none⟩ = some (.int .u8 202)) := c3
          have G6 := Lib.hid g6
          clear c0 c1 c2 c3 g6 b3 C2 B2 G12 HN NW EN
          have L6 := Lib.hid (blk_lt G6.out)
          have eq := EQ.out
          generalize w2.heap.size = g6 at *
          refine wp_region_held_drew (S := fun W => Below w3.heap.size w3 W) (by kernel_rfl) (Below.refl _ _).drew (fun hS => ?_)
          refine' wpAnyH_take (i := 0) ?h1x0p ?hsx0p ?hfx0p ?hrx0p ?hQx0p (Or.inl ⟨?hwx0p, ?hyx0p⟩) hS ?restx0p
          case h1x0p => (simp only [List.getElem?_toArray, List.getElem?_cons_zero]; rfl)
          case hsx0p => kernel_rfl
          case hfx0p => kernel_rfl
          case hrx0p => kernel_rfl
          case hQx0p => exact fun _ _ _ h => h
          case hwx0p => rfl
          case hyx0p =>
            intro W hW
            go_simp
            try with_reducible rfl
          simp only [Act.put, List.setIfInBounds_toArray, List.set_cons_succ, List.set_cons_zero]
          refine' wpAnyH_take (i := 1) ?h1x1p ?hsx1p ?hfx1p ?hrx1p ?hQx1p (Or.inl ⟨?hwx1p, ?hyx1p⟩) hS ?restx1p
          case h1x1p => (simp only [List.getElem?_toArray, List.getElem?_cons_succ, List.getElem?_cons_zero]; rfl)
          case hsx1p => kernel_rfl
          case hfx1p => kernel_rfl
          case hrx1p => kernel_rfl
          case hQx1p => exact fun _ _ _ h => h
          case hwx1p => rfl
          case hyx1p =>
            intro W hW
            have dd := (hW.cell (p := ⟨g6, 0, none⟩) L6.out).trans D0.out
            go_simp
            try with_reducible rfl
          simp only [Act.put, List.setIfInBounds_toArray, List.set_cons_succ, List.set_cons_zero]
          refine' wpAnyH_take (i := 2) ?h1x2p ?hsx2p ?hfx2p ?hrx2p ?hQx2p (Or.inl ⟨?hwx2p, ?hyx2p⟩) hS ?restx2p
          case h1x2p => (simp only [List.getElem?_toArray, List.getElem?_cons_succ, List.getElem?_cons_zero]; rfl)
          case hsx2p => kernel_rfl
          case hfx2p => kernel_rfl
          case hrx2p => kernel_rfl
          case hQx2p => exact fun _ _ _ h => h
          case hwx2p => rfl
          case hyx2p =>
            intro W hW
            go_simp
            try with_reducible rfl
          simp only [Act.put, List.setIfInBounds_toArray, List.set_cons_succ, List.set_cons_zero]
          refine' wpAnyH_take (i := 3) ?h1x3p ?hsx3p ?hfx3p ?hrx3p ?hQx3p (Or.inl ⟨?hwx3p, ?hyx3p⟩) hS ?restx3p
          case h1x3p => (simp only [List.getElem?_toArray, List.getElem?_cons_succ, List.getElem?_cons_zero]; rfl)
          case hsx3p => kernel_rfl
          case hfx3p => kernel_rfl
          case hrx3p => kernel_rfl
          case hQx3p => exact fun _ _ _ h => h
          case hwx3p => rfl
          case hyx3p =>
            intro W hW
            go_simp
            try with_reducible rfl
          simp only [Act.put, List.setIfInBounds_toArray, List.set_cons_succ, List.set_cons_zero]
          refine' wpAnyH_take (i := 4) ?h1x4p ?hsx4p ?hfx4p ?hrx4p ?hQx4p (Or.inl ⟨?hwx4p, ?hyx4p⟩) hS ?restx4p
          case h1x4p => (simp only [List.getElem?_toArray, List.getElem?_cons_succ, List.getElem?_cons_zero]; rfl)
          case hsx4p => kernel_rfl
          case hfx4p => kernel_rfl
          case hrx4p => kernel_rfl
          case hQx4p => exact fun _ _ _ h => h
          case hwx4p => rfl
          case hyx4p =>
            intro W hW
            go_simp
            try with_reducible rfl
          simp only [Act.put, List.setIfInBounds_toArray, List.set_cons_succ, List.set_cons_zero]
          refine' wpAnyH_take (i := 5) ?h1x5p ?hsx5p ?hfx5p ?hrx5p ?hQx5p (Or.inl ⟨?hwx5p, ?hyx5p⟩) hS ?restx5p
          case h1x5p => (simp only [List.getElem?_toArray, List.getElem?_cons_succ, List.getElem?_cons_zero]; rfl)
          case hsx5p => kernel_rfl
          case hfx5p => kernel_rfl
          case hrx5p => kernel_rfl
          case hQx5p => exact fun _ _ _ h => h
          case hwx5p => rfl
          case hyx5p =>
            intro W hW
            have dd := (hW.cell (p := ⟨g6, 1, none⟩) L6.out).trans D1.out
            go_simp
            try with_reducible rfl
          simp only [Act.put, List.setIfInBounds_toArray, List.set_cons_succ, List.set_cons_zero]
          refine' wpAnyH_take (i := 6) ?h1x6p ?hsx6p ?hfx6p ?hrx6p ?hQx6p (Or.inl ⟨?hwx6p, ?hyx6p⟩) hS ?restx6p
          case h1x6p => (simp only [List.getElem?_toArray, List.getElem?_cons_succ, List.getElem?_cons_zero]; rfl)
          case hsx6p => kernel_rfl
          case hfx6p => kernel_rfl
          case hrx6p => kernel_rfl
          case hQx6p => exact fun _ _ _ h => h
          case hwx6p => rfl
          case hyx6p =>
            intro W hW
            go_simp
            try with_reducible rfl
          simp only [Act.put, List.setIfInBounds_toArray, List.set_cons_succ, List.set_cons_zero]
          refine' wpAnyH_take (i := 7) ?h1x7p ?hsx7p ?hfx7p ?hrx7p ?hQx7p (Or.inl ⟨?hwx7p, ?hyx7p⟩) hS ?restx7p
          case h1x7p => (simp only [List.getElem?_toArray, List.getElem?_cons_succ, List.getElem?_cons_zero]; rfl)
          case hsx7p => kernel_rfl
          case hfx7p => kernel_rfl
          case hrx7p => kernel_rfl
          case hQx7p => exact fun _ _ _ h => h
          case hwx7p => rfl
          case hyx7p =>
            intro W hW
            go_simp
            try with_reducible rfl
          simp only [Act.put, List.setIfInBounds_toArray, List.set_cons_succ, List.set_cons_zero]
          refine' wpAnyH_take (i := 8) ?h1x8p ?hsx8p ?hfx8p ?hrx8p ?hQx8p (Or.inl ⟨?hwx8p, ?hyx8p⟩) hS ?restx8p
          case h1x8p => (simp only [List.getElem?_toArray, List.getElem?_cons_succ, List.getElem?_cons_zero]; rfl)
          case hsx8p => kernel_rfl
          case hfx8p => kernel_rfl
          case hrx8p => kernel_rfl
          case hQx8p => exact fun _ _ _ h => h
          case hwx8p => rfl
          case hyx8p =>
            intro W hW
            go_simp
            try with_reducible rfl
          simp only [Act.put, List.setIfInBounds_toArray, List.set_cons_succ, List.set_cons_zero]
          refine' wpAnyH_take (i := 9) ?h1x9p ?hsx9p ?hfx9p ?hrx9p ?hQx9p (Or.inl ⟨?hwx9p, ?hyx9p⟩) hS ?restx9p
          case h1x9p => (simp only [List.getElem?_toArray, List.getElem?_cons_succ, List.getElem?_cons_zero]; rfl)
          case hsx9p => kernel_rfl
          case hfx9p => kernel_rfl
          case hrx9p => kernel_rfl
          case hQx9p => exact fun _ _ _ h => h
          case hwx9p => rfl
          case hyx9p =>
            intro W hW
            go_simp
            try with_reducible rfl
          simp only [Act.put, List.setIfInBounds_toArray, List.set_cons_succ, List.set_cons_zero]
          refine' wpAnyH_take (i := 10) ?h1x10p ?hsx10p ?hfx10p ?hrx10p ?hQx10p (Or.inl ⟨?hwx10p, ?hyx10p⟩) hS ?restx10p
          case h1x10p => (simp only [List.getElem?_toArray, List.getElem?_cons_succ, List.getElem?_cons_zero]; rfl)
          case hsx10p => kernel_rfl
          case hfx10p => kernel_rfl
          case hrx10p => kernel_rfl
          case hQx10p => exact fun _ _ _ h => h
          case hwx10p => rfl
          case hyx10p =>
            intro W hW
            have dd := (hW.cell (p := ⟨g6, 2, none⟩) L6.out).trans D2.out
            go_simp
            try with_reducible rfl
          simp only [Act.put, List.setIfInBounds_toArray, List.set_cons_succ, List.set_cons_zero]
          refine' wpAnyH_take (i := 11) ?h1x11p ?hsx11p ?hfx11p ?hrx11p ?hQx11p (Or.inl ⟨?hwx11p, ?hyx11p⟩) hS ?restx11p
          case h1x11p => (simp only [List.getElem?_toArray, List.getElem?_cons_succ, List.getElem?_cons_zero]; rfl)
          case hsx11p => kernel_rfl
          case hfx11p => kernel_rfl
          case hrx11p => kernel_rfl
          case hQx11p => exact fun _ _ _ h => h
          case hwx11p => rfl
          case hyx11p =>
            intro W hW
            go_simp
            try with_reducible rfl
          simp only [Act.put, List.setIfInBounds_toArray, List.set_cons_succ, List.set_cons_zero]
          refine' wpAnyH_take (i := 12) ?h1x12p ?hsx12p ?hfx12p ?hrx12p ?hQx12p (Or.inl ⟨?hwx12p, ?hyx12p⟩) hS ?restx12p
          case h1x12p => (simp only [List.getElem?_toArray, List.getElem?_cons_succ, List.getElem?_cons_zero]; rfl)
          case hsx12p => kernel_rfl
          case hfx12p => kernel_rfl
          case hrx12p => kernel_rfl
          case hQx12p => exact fun _ _ _ h => h
          case hwx12p => rfl
          case hyx12p =>
            intro W hW
            go_simp
            try with_reducible rfl
          simp only [Act.put, List.setIfInBounds_toArray, List.set_cons_succ, List.set_cons_zero]
          refine' wpAnyH_take (i := 13) ?h1x13p ?hsx13p ?hfx13p ?hrx13p ?hQx13p (Or.inl ⟨?hwx13p, ?hyx13p⟩) hS ?restx13p
          case h1x13p => (simp only [List.getElem?_toArray, List.getElem?_cons_succ, List.getElem?_cons_zero]; rfl)
          case hsx13p => kernel_rfl
          case hfx13p => kernel_rfl
          case hrx13p => kernel_rfl
          case hQx13p => exact fun _ _ _ h => h
          case hwx13p => rfl
          case hyx13p =>
            intro W hW
            go_simp
            try with_reducible rfl
          simp only [Act.put, List.setIfInBounds_toArray, List.set_cons_succ, List.set_cons_zero]
          refine' wpAnyH_take (i := 14) ?h1x14p ?hsx14p ?hfx14p ?hrx14p ?hQx14p (Or.inl ⟨?hwx14p, ?hyx14p⟩) hS ?restx14p
          case h1x14p => (simp only [List.getElem?_toArray, List.getElem?_cons_succ, List.getElem?_cons_zero]; rfl)
          case hsx14p => kernel_rfl
          case hfx14p => kernel_rfl
          case hrx14p => kernel_rfl
          case hQx14p => exact fun _ _ _ h => h
          case hwx14p => rfl
          case hyx14p =>
            intro W hW
            go_simp
            try with_reducible rfl
          simp only [Act.put, List.setIfInBounds_toArray, List.set_cons_succ, List.set_cons_zero]
          refine' wpAnyH_take (i := 15) ?h1x15p ?hsx15p ?hfx15p ?hrx15p ?hQx15p (Or.inl ⟨?hwx15p, ?hyx15p⟩) hS ?restx15p
          case h1x15p => (simp only [List.getElem?_toArray, List.getElem?_cons_succ, List.getElem?_cons_zero]; rfl)
          case hsx15p => kernel_rfl
          case hfx15p => kernel_rfl
          case hrx15p => kernel_rfl
          case hQx15p => exact fun _ _ _ h => h
          case hwx15p => rfl
          case hyx15p =>
            intro W hW
            have dd := (hW.cell (p := ⟨g6, 3, none⟩) L6.out).trans D3.out
            go_simp
            try with_reducible rfl
          simp only [Act.put, List.setIfInBounds_toArray, List.set_cons_succ, List.set_cons_zero]
          refine' wpAnyH_take (i := 16) ?h1x16p ?hsx16p ?hfx16p ?hrx16p ?hQx16p (Or.inl ⟨?hwx16p, ?hyx16p⟩) hS ?restx16p
          case h1x16p => (simp only [List.getElem?_toArray, List.getElem?_cons_succ, List.getElem?_cons_zero]; rfl)
          case hsx16p => kernel_rfl
          case hfx16p => kernel_rfl
          case hrx16p => kernel_rfl
          case hQx16p => exact fun _ _ _ h => h
          case hwx16p => rfl
          case hyx16p =>
            intro W hW
            go_simp
            try with_reducible rfl
          simp only [Act.put, List.setIfInBounds_toArray, List.set_cons_succ, List.set_cons_zero]
          refine' wpAnyH_take (i := 17) ?h1x17p ?hsx17p ?hfx17p ?hrx17p ?hQx17p (Or.inl ⟨?hwx17p, ?hyx17p⟩) hS ?restx17p
          case h1x17p => (simp only [List.getElem?_toArray, List.getElem?_cons_succ, List.getElem?_cons_zero]; rfl)
          case hsx17p => kernel_rfl
          case hfx17p => kernel_rfl
          case hrx17p => kernel_rfl
          case hQx17p => exact fun _ _ _ h => h
          case hwx17p => rfl
          case hyx17p =>
            intro W hW
            go_simp
            try with_reducible rfl
          simp only [Act.put, List.setIfInBounds_toArray, List.set_cons_succ, List.set_cons_zero]
          refine' wpAnyH_take (i := 18) ?h1x18p ?hsx18p ?hfx18p ?hrx18p ?hQx18p (Or.inl ⟨?hwx18p, ?hyx18p⟩) hS ?restx18p
          case h1x18p => (simp only [List.getElem?_toArray, List.getElem?_cons_succ, List.getElem?_cons_zero]; rfl)
          case hsx18p => kernel_rfl
          case hfx18p => kernel_rfl
          case hrx18p => kernel_rfl
          case hQx18p => exact fun _ _ _ h => h
          case hwx18p => rfl
          case hyx18p =>
            intro W hW
            go_simp
            try with_reducible rfl
          simp only [Act.put, List.setIfInBounds_toArray, List.set_cons_succ, List.set_cons_zero]
          refine' wpAnyH_take (i := 19) ?h1x19p ?hsx19p ?hfx19p ?hrx19p ?hQx19p (Or.inl ⟨?hwx19p, ?hyx19p⟩) hS ?restx19p
          case h1x19p => (simp only [List.getElem?_toArray, List.getElem?_cons_succ, List.getElem?_cons_zero]; rfl)
          case hsx19p => kernel_rfl
          case hfx19p => kernel_rfl
          case hrx19p => kernel_rfl
          case hQx19p => exact fun _ _ _ h => h
          case hwx19p => rfl
          case hyx19p =>
            intro W hW
            go_simp
            try with_reducible rfl
          simp only [Act.put, List.setIfInBounds_toArray, List.set_cons_succ, List.set_cons_zero]
          refine' wpAnyH_take (i := 20) ?h1x20p ?hsx20p ?hfx20p ?hrx20p ?hQx20p (yieldsIf_load_at ?hwx20p 37 (.tmp 6) ?hopx20p g6 0 rfl (ncells J) _ (fun W hW => range_row ((hW.block _ L6.out).trans G6.out)) Try.underlying37 rfl ?hix20p) hS ?restx20p
          case h1x20p => (simp only [List.getElem?_toArray, List.getElem?_cons_succ, List.getElem?_cons_zero]; rfl)
          case hopx20p => rfl
          case hsx20p => kernel_rfl
          case hfx20p => kernel_rfl
          case hrx20p => kernel_rfl
          case hQx20p => exact fun _ _ _ h => h
          case hwx20p => rfl
          case hix20p => exact (i47 JE.out.1)
          simp only [Act.put, List.setIfInBounds_toArray, List.set_cons_succ, List.set_cons_zero]
          refine' wpAnyH_take (i := 22) ?h1x22p ?hsx22p ?hfx22p ?hrx22p ?hQx22p (yieldsIf_load_at ?hwx22p 37 (.tmp 2) ?hopx22p (w.heap.size + 1) 0 rfl (ncells B0) _ (fun W hW => range_row ((hW.block _ (blk_lt G13.out)).trans G13.out)) Try.underlying37 rfl ?hix22p) hS ?restx22p
          case h1x22p => (simp only [List.getElem?_toArray, List.getElem?_cons_succ, List.getElem?_cons_zero]; rfl)
          case hopx22p => rfl
          case hsx22p => kernel_rfl
          case hfx22p => kernel_rfl
          case hrx22p => kernel_rfl
          case hQx22p => exact fun _ _ _ h => h
          case hwx22p => rfl
          case hix22p => exact (i47 BB.out)
          simp only [Act.put, List.setIfInBounds_toArray, List.set_cons_succ, List.set_cons_zero]
          refine wpAnyH_ready (rs := [21]) (by kernel_rfl) (by simp) ?_
          refine' AllReadyH.cons ?hoc21p (fun K hK => ?stc21p) AllReadyH.nil
          case hoc21p => (simp only [List.getElem?_toArray, List.getElem?_cons_succ, List.getElem?_cons_zero]; rfl)
          go_simp
          refine (DE.out _ _ (C3.out.below hS)).mono ?_
          rintro e w4 ⟨rfl, hb⟩
          go_wp2_with fail
          refine hK.out _ _ (hS.trans (hb.mono hS.size)) (fun hHeld => ?_)
          clear hK K
          try simp only [Act.put, List.setIfInBounds_toArray, List.set_cons_succ, List.set_cons_zero]
          clear hS hb
          have hS := hHeld
          clear hHeld
          refine' wpAnyH_take (i := 23) ?h1x23p ?hsx23p ?hfx23p ?hrx23p ?hQx23p (Or.inl ⟨?hwx23p, ?hyx23p⟩) hS ?restx23p
          case h1x23p => (simp only [List.getElem?_toArray, List.getElem?_cons_succ, List.getElem?_cons_zero]; rfl)
          case hsx23p => kernel_rfl
          case hfx23p => kernel_rfl
          case hrx23p => kernel_rfl
          case hQx23p => exact fun _ _ _ h => h
          case hwx23p => rfl
          case hyx23p =>
            intro W hW
            go_simp
            try with_reducible rfl
          simp only [Act.put, List.setIfInBounds_toArray, List.set_cons_succ, List.set_cons_zero]
          refine' wpAnyH_take (i := 24) ?h1x24p ?hsx24p ?hfx24p ?hrx24p ?hQx24p (Or.inl ⟨?hwx24p, ?hyx24p⟩) hS ?restx24p
          case h1x24p => (simp only [List.getElem?_toArray, List.getElem?_cons_succ, List.getElem?_cons_zero]; rfl)
          case hsx24p => kernel_rfl
          case hfx24p => kernel_rfl
          case hrx24p => kernel_rfl
          case hQx24p => exact fun _ _ _ h => h
          case hwx24p => rfl
          case hyx24p =>
            intro W hW
            go_simp
            try with_reducible rfl
          simp only [Act.put, List.setIfInBounds_toArray, List.set_cons_succ, List.set_cons_zero]
          refine' wpAnyH_take (i := 25) ?h1x25p ?hsx25p ?hfx25p ?hrx25p ?hQx25p (Or.inl ⟨?hwx25p, ?hyx25p⟩) hS ?restx25p
          case h1x25p => (simp only [List.getElem?_toArray, List.getElem?_cons_succ, List.getElem?_cons_zero]; rfl)
          case hsx25p => kernel_rfl
          case hfx25p => kernel_rfl
          case hrx25p => kernel_rfl
          case hQx25p => exact fun _ _ _ h => h
          case hwx25p => rfl
          case hyx25p =>
            intro W hW
            go_simp
            try with_reducible rfl
          simp only [Act.put, List.setIfInBounds_toArray, List.set_cons_zero]
          refine wpAnyH_done (by kernel_rfl) ?_ _
          go_wp2_with fail
          go_ret
          exact ⟨rfl, B3.out.trans (hS.mono B3.out.size)⟩
end Go.Proofs.Ytekffhopmicalaa
