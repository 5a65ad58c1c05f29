/-
  Contracts of the functions that the statements of package gf go through: the inverses of all bytes. No condition.
-/
import Derived.Test.YtpkeofioobmmoaaGreatDoorAeB
import Derived.Below
import Derived.Laws.Rows
import Derived.Laws.Tables
import Derived.OrdersHeld
import Derived.Deep.RegionHeld
namespace Go.Proofs.YtpkeofioobmmoaaGreatDoor.ae
open Go.RowKit
/-- A row of bytes. -/
def ncells (l : List Nat) : Array Value := (l.map fun (n : Nat) => Value.int .u8 (n : Int)).toArray
theorem nset (l : List Nat) (i x : Nat) : (ncells l).setIfInBounds i (.int .u8 (x : Int)) = ncells (l.set i x) := by
  apply Array.toList_inj.1
  simp [ncells, List.map_set]
theorem nsize (l : List Nat) : (ncells l).size = l.length := by simp [ncells]
theorem ncell (l : List Nat) (i : Nat) (h : i < l.length) : (ncells l)[i]? = some (.int .u8 (l.getD i 0 : Nat)) := by
  simp [ncells, List.getD, h]
theorem none_ (l : List Nat) : (ncells l).all (·.oneCell') = true := by simp [ncells, Value.oneCell']
theorem zero27 : ∀ w, (zeroValue 83).run Tryz.prog w = .ok (.agg (ncells (zeros 256))) w := fun _ => by kernel_rfl
theorem zero38 : ∀ w, (zeroValue 119).run Tryz.prog w = .ok (.agg (ncells (zeros 255))) w := fun _ => by kernel_rfl
theorem info27 : (Tryz.prog.info? 83).map (·.size) = some 256 := by kernel_rfl
theorem info38 : (Tryz.prog.info? 119).map (·.size) = some 255 := by kernel_rfl
theorem below_row {B g : Nat} (w : World) (cs : Array Value) (hg : B ≤ g) : Below B w (w.setRow g cs) :=
  ⟨rfl, rfl, rfl, by simp, fun k hk => setRow_other w g k cs (by omega)⟩
theorem zeros_len (n : Nat) : (zeros n).length = n := List.length_replicate
theorem prow_len (n : Nat) : (prow n).length = 255 := by unfold prow; rw [List.length_map, List.length_range]
theorem prow_zero : prow 0 = zeros 255 := by
  apply List.ext_getElem
  · rw [prow_len, zeros_len]
  · intro i h1 h2
    simp only [prow, zeros, List.getElem_map, List.getElem_range, List.getElem_replicate]
    exact if_neg (by omega)
theorem prow_get (n i : Nat) (h : i < 255) : (prow n).getD i 0 = if i < n then gpow i else 0 := by
  unfold prow
  rw [List.getD, List.getElem?_map, List.getElem?_range h]
  rfl
theorem prow_set (n : Nat) (_h : n < 255) : (prow n).set n (gpow n) = prow (n + 1) := by
  apply List.ext_getElem
  · rw [List.length_set, prow_len, prow_len]
  · intro i h1 h2
    rw [List.getElem_set]
    simp only [prow, List.getElem_map, List.getElem_range]
    by_cases e : n = i
    · subst e; rw [if_pos rfl, if_pos (by omega)]
    · rw [if_neg e]
      by_cases c : i < n
      · rw [if_pos c, if_pos (by omega)]
      · rw [if_neg c, if_neg (by omega)]
theorem brow_len (n : Nat) : (brow n).length = 256 := by unfold brow; rw [List.length_map, List.length_range]
theorem brow_zero : brow 0 = zeros 256 := by
  apply List.ext_getElem
  · rw [brow_len, zeros_len]
  · intro i h1 h2
    simp only [brow, zeros, List.getElem_map, List.getElem_range, List.getElem_replicate]
    exact if_neg (by omega)
theorem brow_set (n : Nat) (_h : n < 256) : (brow n).set n (box n) = brow (n + 1) := by
  apply List.ext_getElem
  · rw [List.length_set, brow_len, brow_len]
  · intro i h1 h2
    rw [List.getElem_set]
    simp only [brow, List.getElem_map, List.getElem_range]
    by_cases e : n = i
    · subst e; rw [if_pos rfl, if_pos (by omega)]
    · rw [if_neg e]
      by_cases c : i < n
      · rw [if_pos c, if_pos (by omega)]
      · rw [if_neg c, if_neg (by omega)]
theorem idx38 (P : List Nat) (hP : P.length = 255) (k : Nat) (hk : k < 255) (w : World) : (Instr.index 119 (.agg (ncells P)) (.int .i64 k)).run Tryz.prog w = .ok (.int .u8 (P.getD k 0 : Nat)) w := by
  have hs : (ncells P).size = 255 := by rw [nsize, hP]
  simp [Instr.index, run_underlying Tryz.underlying119, asIntOf, part, hk, hs]
  simp [ncells, hP, hk]
set_option maxRecDepth 100000 in
set_option maxHeartbeats 2000000 in
theorem inverses (w : World) : Calls Tryz.prog 67 #[] w fun e w' => e = .returned (.agg (ncells (irow 255))) ∧ Below w.heap.size w w' := by
  have z27 := zero27
  have z38 := zero38
  obtain ⟨Z, hZ⟩ : ∃ Z, Z = ncells (zeros 256) := ⟨_, rfl⟩
  obtain ⟨Y, hY⟩ : ∃ Z, Z = ncells (zeros 255) := ⟨_, rfl⟩
  rw [← hZ] at z27
  rw [← hY] at z38
  have HZ := Lib.hid hZ
  have HY := Lib.hid hY
  clear hZ hY
  go_enter Tryz.func67, Tryz.ntmps67
  go_wp2
  go_loopw [2, 7] (fun p i wr => ∃ k : Nat, k ≤ 255 ∧ i = .int .i64 k ∧ p = .int .u8 (gpow k : Nat) ∧ wr.heap.size = w.heap.size + 2 ∧ wr.heap[w.heap.size]? = some (.cells Z 83 (0, 0)) ∧
    wr.heap[w.heap.size + 1]? = some (.cells (ncells (prow k)) 119 (0, 0)) ∧ Below w.heap.size w wr) (fun _ i _ => 255 - (intOf i).toNat)
  case atStart =>
    refine ⟨0, by omega, rfl, rfl, by simp, ?_, ?_, ((Below.refl _ _).alloc (Nat.le_refl _) _).alloc (by simp) _⟩
    · rw [Below.heap_alloc _ _ _ (by simp)]; exact heap_alloc_new w _
    · rw [prow_zero, ← HY.out]; exact heap_alloc2_new w _ _
  case round =>
    obtain ⟨k, hk, rfl, rfl, hsz, hg0, hg1, hbel⟩ := hrel
    by_cases hlt : k < 255
    · have c1 := (cell_of_row _ _ k _ _ _ hg1).trans (ncell (prow k) k (by rw [prow_len]; omega))
      have f1 := frozen_of_row wr (w.heap.size + 1) k _ 119 hg1
      have hgl := gpow_lt k
      have PS : Hid ((ncells (prow k)).setIfInBounds k (.int .u8 (gpow k : Nat)) = ncells (prow (k + 1))) := by
        show _ = _
        rw [nset, prow_set k hlt]
      have GS : Hid (gpow (k + 1) = mul (gpow k) 3) := rfl
      have G0 := Lib.hid hg0
      have G1 := Lib.hid hg1
      have HB := Lib.hid hbel
      have HZ1 := Lib.hid hsz
      clear hg0 hg1 hbel hsz
      go_wp2_with fail
      refine (gmul (gpow k) 3 hgl (by omega) _).mono ?_
      rintro e w' ⟨rfl, rfl⟩
      go_wp2_with fail
      go_roundw
      case rel =>
        refine ⟨k + 1, by omega, by go_num, by rw [GS.out], by simpa using HZ1.out, ?_, ?_, HB.out.setCell (by simp) _⟩
        · rw [heap_setCell_other _ _ _ _ (by simp)]; exact G0.out
        · rw [heap_setCell_same _ _ _ _ _ _ G1.out, PS.out]
      case measure => simp [intOf]; omega
    · obtain rfl : k = 255 := by omega
      obtain ⟨wo, rfl⟩ : ∃ wo : World, wo = wr := ⟨_, rfl⟩
      have i38 : (Tryz.prog.info? 119).map (·.size) = some (ncells (prow 255)).size := by rw [info38, nsize, prow_len]
      have g0' : Hid ((wo.alloc (.cells Z 83)).heap[w.heap.size]? = some (.cells Z 83 (0, 0))) := by
        show _ = _
        rw [Below.heap_alloc _ _ _ (by omega)]; exact hg0
      have g1' : (wo.alloc (.cells Z 83)).heap[w.heap.size + 1]? = some (.cells (ncells (prow 255)) 119 (0, 0)) := by
        rw [Below.heap_alloc _ _ _ (by omega)]; exact hg1
      have g2' : Hid ((wo.alloc (.cells Z 83)).heap[wo.heap.size]? = some (.cells (ncells (irow 0)) 83 (0, 0))) := by
        show _ = _
        rw [heap_alloc_new wo (.cells Z 83), HZ.out]; rfl
      have HB : Hid (Below w.heap.size w (wo.alloc (.cells Z 83))) := hbel.alloc (by omega) _
      have HS := Lib.hid hsz
      have I38 := Lib.hid i38
      have G1 := Lib.hid g1'
      clear hg0 hg1 hbel hsz i38 g1'
      go_wp2_with (refine wpList_load_row rfl 119 _ rfl (w.heap.size + 1) rfl 119 (ncells (prow 255)) (0, 0) _ G1.out Tryz.underlying119 rfl I38.out ?_)
      go_loopw [17] (fun i wr => ∃ k : Nat, k ≤ 255 ∧ i = .int .i64 k ∧ wr.heap[w.heap.size]? = some (.cells Z 83 (0, 0)) ∧
        wr.heap[w.heap.size + 1]? = some (.cells (ncells (prow 255)) 119 (0, 0)) ∧ wr.heap[wo.heap.size]? = some (.cells (ncells (irow k)) 83 (0, 0)) ∧ Below w.heap.size w wr) (fun i _ => 255 - (intOf i).toNat)
      case atStart => exact ⟨0, by omega, rfl, g0'.out, G1.out, g2'.out, HB.out⟩
      case round =>
        clear G1 g0' g2' HB
        obtain ⟨k, hk, rfl, hg0, hg1, hg2, hbel⟩ := hrel
        by_cases hlt : k < 255
        · obtain ⟨r, hr⟩ : ∃ r, r = (255 - k) % 255 := ⟨_, rfl⟩
          have hr255 : r < 255 := by omega
          have hrz : (255 - (k : Int)) % 255 = (r : Int) := by omega
          have hgl := gpow_lt k
          have hi := idx38 (prow 255) (prow_len 255) k hlt
          rw [prow_get 255 k hlt, if_pos hlt] at hi
          have c1 := (cell_of_row _ _ r _ _ _ hg1).trans (ncell (prow 255) r (by rw [prow_len]; omega))
          rw [prow_get 255 r hr255, if_pos hr255] at c1
          have c2 := (cell_of_row _ _ (gpow k) _ _ _ hg2).trans (ncell (irow k) (gpow k) (by rw [irow_len]; omega))
          have f2 := frozen_of_row wr wo.heap.size (gpow k) _ 83 hg2
          have IS : Hid ((ncells (irow k)).setIfInBounds (gpow k) (.int .u8 (gpow r : Nat)) = ncells (irow (k + 1))) := by
            show _ = _
            rw [nset, hr]; rfl
          have G0 := Lib.hid hg0
          have G1 := Lib.hid hg1
          have G2 := Lib.hid hg2
          have HB := Lib.hid hbel
          clear hg0 hg1 hg2 hbel hr
          go_wp2_with fail
          go_roundw
          case rel =>
            have hz := HS.out
            refine ⟨k + 1, by omega, by go_num, ?_, ?_, ?_, HB.out.setCell (by simp; omega) _⟩
            · rw [heap_setCell_other _ _ _ _ (by simp; omega)]; exact G0.out
            · rw [heap_setCell_other _ _ _ _ (by simp; omega)]; exact G1.out
            · rw [heap_setCell_same _ _ _ _ _ _ G2.out, IS.out]
          case measure => simp [intOf]; omega
        · obtain rfl : k = 255 := by omega
          have hlen := irow_len 255
          obtain ⟨R, hR⟩ : ∃ R, R = irow 255 := ⟨_, rfl⟩
          rw [← hR] at hg2 hlen
          have HR := Lib.hid hR
          clear hR
          have i27 : (Tryz.prog.info? 83).map (·.size) = some (ncells R).size := by rw [info27, nsize, hlen]
          have hsz2 : Z.size = (ncells R).size := by rw [HZ.out, nsize, nsize, hlen, zeros_len]
          have hone := none_ R
          have HG1 := Lib.hid hg1
          have HB := Lib.hid hbel
          clear hg1 hbel
          go_wp2_with (first
            | (refine wpList_load_row rfl 83 _ rfl wo.heap.size rfl 83 (ncells R) (0, 0) _ hg2 Tryz.underlying83 rfl i27 ?_)
            | (refine wpList_store_row rfl 83 _ _ rfl w.heap.size (ncells R) rfl rfl 83 Z hg0 i27 hsz2 hone ?_))
          refine bodyPost_ret (v := .agg (ncells R)) (results_cell_row Tryz.results67 _ _ w.heap.size 83 _ (0, 0) _ rfl (setRow_heap _ _ _ _ _ _ hg0) Tryz.underlying83 rfl i27) rfl ⟨by rw [HR.out], ?_⟩
          exact HB.out.trans (below_row _ _ (Nat.le_refl _))

theorem more {P : Program} {md : Region.Mode} {ops : Array Oper} {Q : Exit → Act → World → Prop} {S S' : World → Prop} (h : ∀ w, S' w → S w) :
    ∀ (fuel : Nat) (listed : Array Bool) (a : Act) (w : World), wpAnyH P md ops Q S' fuel listed a w → wpAnyH P md ops Q S fuel listed a w
  | 0, _, _, _, hh => hh
  | fuel + 1, _, _, _, hh => ⟨hh.1, fun i hi => wpOp_mono (fun a' w' h' => ⟨h w' h'.1, more h fuel _ a' w' h'.2⟩) (hh.2 i hi)⟩
theorem results_two_rows {P : Program} {fn : Func} {p q : Tmp} {ty : TypeId} (h : fn.results = #[.cell p ty, .cell q ty]) (tmps : Array Value) (w : World) (g k : Nat) (t : TypeId) (cs ds : Array Value) (fr fk : Nat × Nat) (d : TypeDesc)
    (hp : tmps.getD p undef = .pointer (some ⟨g, 0, none⟩)) (hq : tmps.getD q undef = .pointer (some ⟨k, 0, none⟩)) (hg : w.heap[g]? = some (.cells cs t fr)) (hk : w.heap[k]? = some (.cells ds t fk))
    (hu : P.underlying ty = some d) (hd : (match d with | .struct _ | .array _ _ => true | _ => false) = true) (hi : (P.info? ty).map (·.size) = some cs.size) (hj : (P.info? ty).map (·.size) = some ds.size) :
    (results fn tmps).run P w = .ok (.tuple #[.agg cs, .agg ds]) w := by
  have hp' : tmps[p]?.getD undef = .pointer (some ⟨g, 0, none⟩) := by simpa using hp
  have hq' : tmps[q]?.getD undef = .pointer (some ⟨k, 0, none⟩) := by simpa using hq
  simp [results, h, hp', hq', asAddr, run_loadVar_row w g t ty cs fr d hg hu hd hi, run_loadVar_row w k t ty ds fk d hk hu hd hj]
/-- The rows that Boxes hands out. -/
def ibox : List Nat := irow 255
theorem ibox_len : ibox.length = 256 := irow_len 255
theorem ibox_get (k : Nat) (h : k < 256) : ibox.getD k 0 = inv k := by
  unfold ibox
  rw [irow_all, List.getD, List.getElem?_map, List.getElem?_range h]; rfl
set_option maxRecDepth 100000 in
set_option maxHeartbeats 2000000 in
theorem boxes (w : World) : Calls Tryz.prog 47 #[] w fun e w' => e = .returned (.tuple #[.agg (ncells (brow 256)), .agg (ncells (krow 256))]) ∧ Below w.heap.size w w' := by
  have z27 := zero27
  obtain ⟨Z, hZ⟩ : ∃ Z, Z = ncells (zeros 256) := ⟨_, rfl⟩
  rw [← hZ] at z27
  have HZ := Lib.hid hZ
  clear hZ
  have IV := inverses
  rw [show irow 255 = ibox from rfl] at IV
  obtain ⟨X, hX⟩ : ∃ Z, Z = ncells ibox := ⟨_, rfl⟩
  rw [← hX] at IV
  have HX := Lib.hid hX
  have HI := Lib.hid IV
  clear hX IV
  go_enter Tryz.func47, Tryz.ntmps47
  go_wp2_with fail
  refine (HI.out _).mono ?_
  rintro e w1 ⟨rfl, hb⟩
  have hsz1 : w.heap.size + 4 ≤ w1.heap.size := by have := hb.size; simpa using this
  have k0 : w1.heap[w.heap.size]? = some (.cells Z 83 (0, 0)) := by
    rw [hb.block _ (by simp <;> omega), Below.heap_alloc _ _ _ (by simp <;> omega), Below.heap_alloc _ _ _ (by simp <;> omega), Below.heap_alloc _ _ _ (by simp)]; exact heap_alloc_new w _
  have k1 : w1.heap[w.heap.size + 1]? = some (.cells Z 83 (0, 0)) := by
    rw [hb.block _ (by simp), Below.heap_alloc _ _ _ (by simp <;> omega), Below.heap_alloc _ _ _ (by simp)]; exact heap_alloc2_new w _ _
  have k2 : w1.heap[w.heap.size + 2]? = some (.cells Z 83 (0, 0)) := by
    rw [hb.block _ (by simp), Below.heap_alloc _ _ _ (by simp)]
    have := heap_alloc_new ((w.alloc (.cells Z 83)).alloc (.cells Z 83)) (.cells Z 83)
    simpa using this
  have k3 : w1.heap[w.heap.size + 3]? = some (.cells Z 83 (0, 0)) := by
    rw [hb.block _ (by simp)]
    have := heap_alloc_new (((w.alloc (.cells Z 83)).alloc (.cells Z 83)).alloc (.cells Z 83)) (.cells Z 83)
    simpa using this
  have hb1 : Below w.heap.size w w1 := ((((((Below.refl _ _).alloc (Nat.le_refl _) _).alloc (by simp) _).alloc (by simp <;> omega) _).alloc (by simp <;> omega) _).trans (hb.mono (by simp <;> omega)))
  have B1 := Lib.hid hb1
  have hXl : X.size = 256 := by rw [HX.out, nsize, ibox_len]
  have hZl : Z.size = 256 := by rw [HZ.out, nsize, zeros_len]
  have hoX : X.all (·.oneCell') = true := by rw [HX.out]; exact none_ _
  have hZX : Z.size = X.size := by rw [hXl, hZl]
  have i27 : (Tryz.prog.info? 83).map (·.size) = some X.size := by rw [info27, hXl]
  have I27 := Lib.hid i27
  have HZX := Lib.hid hZX
  have HZL := Lib.hid hZl
  have HOX := Lib.hid hoX
  have HS1 := Lib.hid hsz1
  have K0 := Lib.hid k0
  have K1 := Lib.hid k1
  have K2 := Lib.hid k2
  have K3 := Lib.hid k3
  clear hb hb1 i27 hZX hoX hXl hZl hsz1 k0 k1 k2 k3
  go_wp2_with (refine wpList_store_row rfl 83 _ _ rfl w1.heap.size X rfl rfl 83 Z (heap_alloc_new w1 _) I27.out HZX.out HOX.out ?_)
  have H4 : Hid (((w1.alloc (.cells Z 83)).setRow w1.heap.size X).heap[w1.heap.size]? = some (.cells X 83 (0, 0))) := setRow_heap _ _ _ _ _ _ (heap_alloc_new w1 _)
  have HBB : Hid (Below w.heap.size w ((w1.alloc (.cells Z 83)).setRow w1.heap.size X)) := (B1.out.alloc B1.out.size _).trans (below_row _ _ B1.out.size)
  have hold : ∀ k, k < w1.heap.size → ((w1.alloc (.cells Z 83)).setRow w1.heap.size X).heap[k]? = w1.heap[k]? := fun k hk => by
    rw [setRow_other _ _ _ _ (by omega), Below.heap_alloc _ _ _ hk]
  have HOLD := Lib.hid hold
  clear hold
  go_loopw [8] (fun i wr => ∃ k : Nat, k ≤ 256 ∧ i = .int .i64 k ∧ wr.heap[w.heap.size]? = some (.cells Z 83 (0, 0)) ∧ wr.heap[w.heap.size + 1]? = some (.cells Z 83 (0, 0)) ∧
    wr.heap[w.heap.size + 2]? = some (.cells (ncells (brow k)) 83 (0, 0)) ∧ wr.heap[w.heap.size + 3]? = some (.cells (ncells (krow k)) 83 (0, 0)) ∧ wr.heap[w1.heap.size]? = some (.cells X 83 (0, 0)) ∧ Below w.heap.size w wr) (fun i _ => 256 - (intOf i).toNat)
  case atStart =>
    have hs := HS1.out
    refine ⟨0, by omega, rfl, ?_, ?_, ?_, ?_, H4.out, HBB.out⟩
    · rw [HOLD.out _ (by omega)]; exact K0.out
    · rw [HOLD.out _ (by omega)]; exact K1.out
    · rw [HOLD.out _ (by omega), brow_zero, ← HZ.out]; exact K2.out
    · rw [HOLD.out _ (by omega), show krow 0 = zeros 256 from rfl, ← HZ.out]; exact K3.out
  case round =>
    clear H4 HBB HOLD K0 K1 K2 K3
    obtain ⟨k, hk, rfl, h0, h1, h2, h3, h4, hbel⟩ := hrel
    by_cases hlt : k < 256
    · have hiv := inv_lt hlt
      have hbx := box_lt hlt
      have c4 : wr.cell? ⟨w1.heap.size, k, none⟩ = some (.int .u8 (inv k : Nat)) := by
        rw [cell_of_row _ _ k _ _ _ h4, HX.out, ncell ibox k (by rw [ibox_len]; omega), ibox_get k hlt]
      have c2 := (cell_of_row _ _ k _ _ _ h2).trans (ncell (brow k) k (by rw [brow_len]; omega))
      have f2 := frozen_of_row wr (w.heap.size + 2) k _ 83 h2
      have c3 := (cell_of_row _ _ (box k) _ _ _ h3).trans (ncell (krow k) (box k) (by rw [krow_len]; omega))
      have f3 := frozen_of_row wr (w.heap.size + 3) (box k) _ 83 h3
      have MX := Lib.hid (mixed (inv k) hiv)
      have BS : Hid ((ncells (brow k)).setIfInBounds k (.int .u8 (box k : Nat)) = ncells (brow (k + 1))) := by
        show _ = _
        rw [nset, brow_set k hlt]
      have KS : Hid ((ncells (krow k)).setIfInBounds (box k) (.int .u8 (k : Nat)) = ncells (krow (k + 1))) := by
        show _ = _
        rw [nset]; rfl
      have BX : Hid (mix (inv k) = box k) := rfl
      have H0 := Lib.hid h0
      have H1 := Lib.hid h1
      have H2 := Lib.hid h2
      have H3 := Lib.hid h3
      have H4 := Lib.hid h4
      have HB := Lib.hid hbel
      clear h0 h1 h2 h3 h4 hbel
      go_wp2_with fail
      refine (MX.out _).mono ?_
      rintro e w' ⟨rfl, rfl⟩
      rw [BX.out]
      go_wp2_with fail
      go_roundw
      case rel =>
        have hs := HS1.out
        refine ⟨k + 1, by omega, by go_num, ?_, ?_, ?_, ?_, ?_, (HB.out.setCell (by simp <;> omega) _).setCell (by simp <;> omega) _⟩
        · rw [heap_setCell_other _ _ _ _ (by simp <;> omega), heap_setCell_other _ _ _ _ (by simp <;> omega)]; exact H0.out
        · rw [heap_setCell_other _ _ _ _ (by simp <;> omega), heap_setCell_other _ _ _ _ (by simp <;> omega)]; exact H1.out
        · rw [heap_setCell_other _ _ _ _ (by simp <;> omega), heap_setCell_same _ _ _ _ _ _ H2.out, BS.out]
        · rw [heap_setCell_same _ _ _ _ _ _ ((heap_setCell_other _ _ _ _ (by simp <;> omega)).trans H3.out), KS.out]
        · rw [heap_setCell_other _ _ _ _ (by simp <;> omega), heap_setCell_other _ _ _ _ (by simp <;> omega)]; exact H4.out
      case measure => simp [intOf]; omega
    · obtain rfl : k = 256 := by omega
      have hl2 := brow_len 256
      have hl3 := krow_len 256
      obtain ⟨R, hR⟩ : ∃ R, R = brow 256 := ⟨_, rfl⟩
      obtain ⟨S, hS⟩ : ∃ R, R = krow 256 := ⟨_, rfl⟩
      rw [← hR] at h2 hl2
      rw [← hS] at h3 hl3
      have HR := Lib.hid hR
      have HS := Lib.hid hS
      have HB := Lib.hid hbel
      clear hR hS h4 hbel
      have rR : ∀ W : World, W.heap[w.heap.size + 2]? = some (.cells (ncells R) 83 (0, 0)) → W.rangeAt (w.heap.size + 2) 0 (ncells R).toList := fun W hW j v hv => by
        rw [Nat.zero_add, cell_of_row _ _ _ _ _ _ hW]; simpa using hv
      have rS : ∀ W : World, W.heap[w.heap.size + 3]? = some (.cells (ncells S) 83 (0, 0)) → W.rangeAt (w.heap.size + 3) 0 (ncells S).toList := fun W hW j v hv => by
        rw [Nat.zero_add, cell_of_row _ _ _ _ _ _ hW]; simpa using hv
      have iR : (Tryz.prog.info? 83).map (·.size) = some (ncells R).size := by rw [info27, nsize, hl2]
      have iS : (Tryz.prog.info? 83).map (·.size) = some (ncells S).size := by rw [info27, nsize, hl3]
      have oR := none_ R
      have oS := none_ S
      have zR : Z.size = (ncells R).size := by rw [HZL.out, nsize, hl2]
      have zS : Z.size = (ncells S).size := by rw [HZL.out, nsize, hl3]
      obtain ⟨CR, hCR⟩ : ∃ C, C = ncells R := ⟨_, rfl⟩
      obtain ⟨CS, hCS⟩ : ∃ C, C = ncells S := ⟨_, rfl⟩
      rw [← hCR] at rR iR oR zR h2
      rw [← hCS] at rS iS oS zS h3
      have HCR := Lib.hid hCR
      have HCS := Lib.hid hCS
      clear hCR hCS
      go_wp2_with fail
      refine wp_region_held_drew (S := fun W => W.heap[w.heap.size + 2]? = some (.cells CR 83 (0, 0)) ∧ W.heap[w.heap.size + 3]? = some (.cells CS 83 (0, 0)) ∧ Below w.heap.size w W ∧ W.heap.size = wr.heap.size) (by kernel_rfl) ⟨h2, h3, HB.out.drew, rfl⟩ (fun hS => ?_)
      refine' wpAnyH_take (i := 0) ?h1x0 ?hsx0 ?hfx0 ?hrx0 ?hQx0 (yieldsIf_load_mid ?hwx0 83 (.tmp 2) ?hopx0 (w.heap.size + 2) 0 rfl CR.toList _ (fun W hW => rR W hW.1) Tryz.underlying83 rfl ?hix0) hS ?restx0
      case h1x0 => (simp only [List.getElem?_toArray, List.getElem?_cons_zero]; rfl)
      case hopx0 => rfl
      case hsx0 | hfx0 | hrx0 => kernel_rfl
      case hQx0 => exact fun _ _ _ h => h
      case hwx0 => rfl
      case hix0 => exact iR
      simp only [Act.put, List.setIfInBounds_toArray, List.set_cons_succ, List.set_cons_zero]
      refine' wpAnyH_take (i := 1) ?h1x1 ?hsx1 ?hfx1 ?hrx1 ?hQx1 (yieldsIf_load_mid ?hwx1 83 (.tmp 3) ?hopx1 (w.heap.size + 3) 0 rfl CS.toList _ (fun W hW => rS W hW.2.1) Tryz.underlying83 rfl ?hix1) hS ?restx1
      case h1x1 => (simp only [List.getElem?_toArray, List.getElem?_cons_succ, List.getElem?_cons_zero]; rfl)
      case hopx1 => rfl
      case hsx1 | hfx1 | hrx1 => kernel_rfl
      case hQx1 => exact fun _ _ _ h => h
      case hwx1 => rfl
      case hix1 => exact iS
      simp only [Act.put, List.setIfInBounds_toArray, List.set_cons_succ, List.set_cons_zero]
      refine wpAnyH_ready (rs := [2]) (by kernel_rfl) (by simp) ?_
      refine' AllReadyH.cons ?hoc2 (fun K hK => ?stc2) AllReadyH.nil
      case hoc2 => (simp only [List.getElem?_toArray, List.getElem?_cons_succ, List.getElem?_cons_zero]; rfl)
      rw [if_pos (by rfl)]
      refine wp_store_row 83 (.tmp 0) (.tmp 23) rfl w.heap.size CR rfl rfl 83 Z h0 iR zR oR ?_
      refine hK.out _ _ ⟨?_, ?_, hS.2.2.1.trans (below_row _ _ (Nat.le_refl _)), ?_⟩ (fun hS2 => ?_)
      · rw [setRow_other _ _ _ _ (by omega)]; exact hS.1
      · rw [setRow_other _ _ _ _ (by omega)]; exact hS.2.1
      · simp
      clear hK K hS
      simp only [Act.put]
      refine wpAnyH_ready (rs := [3]) (by kernel_rfl) (by simp) ?_
      refine' AllReadyH.cons ?hoc3 (fun K hK => ?stc3) AllReadyH.nil
      case hoc3 => (simp only [List.getElem?_toArray, List.getElem?_cons_succ, List.getElem?_cons_zero]; rfl)
      rw [if_pos (by rfl)]
      have h1' : (wr.drew.setRow w.heap.size CR).heap[w.heap.size + 1]? = some (.cells Z 83 (0, 0)) := by
        rw [setRow_other _ _ _ _ (by omega)]; exact h1
      refine wp_store_row 83 (.tmp 1) (.tmp 24) rfl (w.heap.size + 1) CS rfl rfl 83 Z h1' iS zS oS ?_
      refine hK.out _ _ ⟨?_, ?_, hS2.2.2.1.trans (below_row _ _ (by omega)), ?_⟩ (fun hS3 => ?_)
      · rw [setRow_other _ _ _ _ (by omega)]; exact hS2.1
      · rw [setRow_other _ _ _ _ (by omega)]; exact hS2.2.1
      · simp
      clear hK K hS2
      simp only [Act.put]
      refine wpAnyH_done (by kernel_rfl) ?_ _
      go_wp2_with fail
      have e0 : ((wr.drew.setRow w.heap.size CR).setRow (w.heap.size + 1) CS).heap[w.heap.size]? = some (.cells CR 83 (0, 0)) := by
        rw [setRow_other _ _ _ _ (by omega)]; exact setRow_heap _ _ _ _ _ _ h0
      have e1 : ((wr.drew.setRow w.heap.size CR).setRow (w.heap.size + 1) CS).heap[w.heap.size + 1]? = some (.cells CS 83 (0, 0)) := setRow_heap _ _ _ _ _ _ h1'
      refine bodyPost_ret (v := .tuple #[.agg CR, .agg CS]) (results_two_rows Tryz.results47 _ _ w.heap.size (w.heap.size + 1) 83 _ _ (0, 0) (0, 0) _ rfl rfl e0 e1 Tryz.underlying83 rfl iR iS) rfl ⟨?_, hS3.2.2.1⟩
      rw [HCR.out, HCS.out, HR.out, HS.out]
end Go.Proofs.YtpkeofioobmmoaaGreatDoor.ae
