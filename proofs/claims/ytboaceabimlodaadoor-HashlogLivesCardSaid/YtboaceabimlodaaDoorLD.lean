/-
  Contracts of package hashlog: Sum and Has, of a log, of nil and of one that no call made; Clash, where there is none. Condition: the log lies in memory as a list of texts.
-/
import Derived.Test.YtboaceabimlodaaDoorLK
namespace Go.Proofs.YtboaceabimlodaaDoor
open Go.RowKit
theorem LG.wider {S S' : Nat → Prop} {w : World} {g : Nat} {T : List (List Int)} (h : LG S w g T) (hS : ∀ b, S b → S' b) (ho : ∀ b, S' b → 2 ≤ b ∧ b < w.heap.size) : LG S' w g T := by
  obtain ⟨mb, s, f, C, h⟩ := h
  exact ⟨mb, s, f, C, h.wider hS ho⟩
/-- A text summed. -/
def SumP (S : Nat → Prop) (w : World) (g : Nat) (T : List (List Int)) (b : List Int) (e : Ending) (w' : World) : Prop :=
  e = .returned (.agg (bcells (sha b))) ∧ LG (fun q => S q ∨ w.heap.size ≤ q ∧ q < w'.heap.size) w' g (addT T b) ∧ Mods S w w'
set_option maxRecDepth 100000 in
set_option maxHeartbeats 4000000 in
theorem sumY (S : Nat → Prop) (g : Nat) (T : List (List Int)) (b : List Int) (v : Value) (w : World) (h : LG S w g T) (hvS : ∀ q, b ≠ [] → v.ownBlock = some q → ¬ S q) (hT : T.length ≤ 999999) (hG : Glob w) (hb : Byt b) (hlen : b.length ≤ 140737488351232) (hv : Sees w v b) :
    Calls Tryd.prog 9 #[.pointer (some ⟨g, 0, none⟩), v] w (SumP S w g T b) := by
  have z27 := zv27
  obtain ⟨Z27, hZ27⟩ : ∃ Z, Z = bcells (List.replicate 32 0) := ⟨_, rfl⟩
  rw [← hZ27] at z27
  have lk : (sha b).length = 32 := sha_len b hb
  have IS : Hid ((Tryd.prog.info? 31).map (·.size) = some (bcells (sha b)).size) := by show _ = _; rw [i27, bsize, lk]
  have ZS : Hid (Z27.size = (bcells (sha b)).size) := by show _ = _; rw [hZ27, bsize, bsize, lk, List.length_replicate]
  have OS := Lib.hid (bone (sha b))
  have h2 : 1 < w.heap.size := hG.lt
  obtain ⟨wa, hwa⟩ : ∃ wa, wa = w.alloc (.cells Z27 31) := ⟨_, rfl⟩
  have ba : Below w.heap.size w wa := by rw [hwa]; exact (Below.refl _ _).alloc (Nat.le_refl _) _
  have za : wa.heap[w.heap.size]? = some (.cells Z27 31 (0, 0)) := by rw [hwa]; exact heap_alloc_new w _
  have SM := Lib.hid (sum1 v b wa (hv.below ba) (by omega) (hG.below (b := w.heap.size) ba (by omega)))
  have HWA := Lib.hid hwa
  have H2L := Lib.hid h2
  have BA := Lib.hid ba
  have ZA := Lib.hid za
  have HL := Lib.hid h
  have HV := Lib.hid hv
  have HVS := Lib.hid hvS
  have HT := Lib.hid hT
  have HB := Lib.hid hb
  have HLN := Lib.hid hlen
  clear h2 h hv hvS hT hb hlen hZ27 lk hwa ba za hG
  obtain ⟨SC, hSC⟩ : ∃ SC, SC = sha b := ⟨_, rfl⟩
  rw [← hSC] at IS ZS OS SM
  have HSC := Lib.hid hSC
  clear hSC
  go_enter Tryd.func9, Tryd.ntmps9
  go_wp2_with fail
  rw [← HWA.out]
  refine SM.out.mono ?_
  rintro e w1 ⟨rfl, hb1⟩
  have B1 := Lib.hid (BA.out.trans (hb1.mono BA.out.size))
  have Z1 := Lib.hid ((hb1.block _ (blk_lt ZA.out)).trans ZA.out)
  clear hb1
  have zn := heap_alloc_new w1 (.cells Z27 31)
  obtain ⟨w2, hw2⟩ : ∃ w2, w2 = (w1.alloc (.cells Z27 31)).setRow w1.heap.size (bcells SC) := ⟨_, rfl⟩
  have B2 : Hid (Below w.heap.size w w2) := by
    rw [hw2]
    exact (B1.out.alloc B1.out.size _).trans (below_row _ _ B1.out.size)
  have R2 : Hid (w2.heap[w1.heap.size]? = some (.cells (bcells SC) 31 (0, 0))) := by rw [hw2]; exact setRow_heap _ _ _ _ _ _ zn
  have L12 : Hid (w.heap.size < w1.heap.size) := blk_lt Z1.out
  have Z2 : Hid (w2.heap[w.heap.size]? = some (.cells Z27 31 (0, 0))) := by
    rw [hw2, setRow_other _ _ _ _ (Nat.ne_of_lt L12.out), Below.heap_alloc _ _ _ L12.out]
    exact Z1.out
  have HW2 := Lib.hid hw2
  have S2 : Hid (w1.heap.size < w2.heap.size) := blk_lt R2.out
  clear hw2
  have zn' := Lib.hid zn
  clear zn
  have LG2 := Lib.hid (HL.out.below B2.out)
  have IM := Lib.hid (isMadeY S g T w2 LG2.out)
  go_wp2_with (refine wpList_store_row rfl 31 (.tmp 5) (.tmp 7) rfl w1.heap.size (bcells SC) rfl rfl 31 Z27 zn'.out IS.out ZS.out OS.out ?_)
  rw [← HW2.out]
  refine IM.out.mono ?_
  rintro e w' ⟨rfl, rfl⟩
  have KP := Lib.hid (keep S g T b v w2 LG2.out HB.out HLN.out (HV.out.below B2.out) HVS.out HT.out)
  rw [← HSC.out] at KP
  go_wp2_with (refine wpList_load_row rfl 31 (.tmp 5) rfl w1.heap.size rfl 31 (bcells SC) (0, 0) _ R2.out Tryd.underlying31 rfl IS.out ?_)
  refine KP.out.mono ?_
  rintro e w3 ⟨rfl, hlg, hmd⟩
  have own := HL.out.own
  have R3 := Lib.hid ((hmd.block _ (blk_lt R2.out) (fun hs => by have := (own _ hs).2; have := L12.out; omega)).trans R2.out)
  have Z3 := Lib.hid ((hmd.block _ (blk_lt Z2.out) (fun hs => by have := (own _ hs).2; omega)).trans Z2.out)
  have HLG := Lib.hid hlg
  have HMD := Lib.hid hmd
  clear hlg hmd own
  go_wp2_with (first
    | (refine wpList_load_row rfl 31 (.tmp 5) rfl w1.heap.size rfl 31 (bcells SC) (0, 0) _ R3.out Tryd.underlying31 rfl IS.out ?_)
    | (refine wpList_store_row rfl 31 (.tmp 4) (.tmp 14) rfl w.heap.size (bcells SC) rfl rfl 31 Z27 Z3.out IS.out ZS.out OS.out ?_))
  refine bodyPost_ret (v := .agg (bcells SC)) (results_cell_row Tryd.results9 _ _ w.heap.size 31 _ (0, 0) _ rfl (setRow_heap _ _ _ _ _ _ Z3.out) Tryd.underlying31 rfl IS.out) rfl ⟨by rw [HSC.out], ?_, ?_⟩
  · have own := HL.out.own
    have m4 : Mods (fun q => q = w.heap.size) w3 (w3.setRow w.heap.size (bcells SC)) := ⟨rfl, rfl, rfl, by simp, fun j _ hj => setRow_other _ _ _ _ hj⟩
    refine (HLG.out.mods m4 (fun q hq e => ?_)).wider (fun q hq => ?_) (fun q hq => ?_)
    · have e' : q = w.heap.size := e
      have := S2.out
      have := L12.out
      rcases hq with hq | hq
      · have := (own q hq).2
        omega
      · omega
    · have s3 : (w3.setRow w.heap.size (bcells SC)).heap.size = w3.heap.size := by simp
      have := B2.out.size
      rcases hq with hq | hq
      · exact .inl hq
      · exact .inr ⟨by omega, by omega⟩
    · have s3 : (w3.setRow w.heap.size (bcells SC)).heap.size = w3.heap.size := by simp
      have := B2.out.size
      have := HMD.out.size
      have := H2L.out
      rcases hq with hq | hq
      · have := own q hq
        omega
      · omega
  · have m1 : Mods S w w2 := Mods.of_below B2.out
    have m2 : Mods S w w3 := m1.trans HMD.out (fun q e => .inl e)
    exact m2.trans (T := fun q => q = w.heap.size) ⟨rfl, rfl, rfl, by simp, fun j _ hj => setRow_other _ _ _ _ hj⟩ (fun q e => .inr (by have e' : q = w.heap.size := e; omega))
set_option maxRecDepth 100000 in
set_option maxHeartbeats 4000000 in
theorem sumNil (b : List Int) (v : Value) (w : World) (hG : Glob w) (hb : Byt b) (hlen : b.length ≤ 140737488351232) (hv : Sees w v b) :
    Calls Tryd.prog 9 #[.pointer none, v] w fun e w' => e = .returned (.agg (bcells (sha b))) ∧ Below w.heap.size w w' := by
  have z27 := zv27
  obtain ⟨Z27, hZ27⟩ : ∃ Z, Z = bcells (List.replicate 32 0) := ⟨_, rfl⟩
  rw [← hZ27] at z27
  have lk : (sha b).length = 32 := sha_len b hb
  have IS : Hid ((Tryd.prog.info? 31).map (·.size) = some (bcells (sha b)).size) := by show _ = _; rw [i27, bsize, lk]
  have ZS : Hid (Z27.size = (bcells (sha b)).size) := by show _ = _; rw [hZ27, bsize, bsize, lk, List.length_replicate]
  have OS := Lib.hid (bone (sha b))
  have h2 : 1 < w.heap.size := hG.lt
  obtain ⟨wa, hwa⟩ : ∃ wa, wa = w.alloc (.cells Z27 31) := ⟨_, rfl⟩
  have ba : Below w.heap.size w wa := by rw [hwa]; exact (Below.refl _ _).alloc (Nat.le_refl _) _
  have za : wa.heap[w.heap.size]? = some (.cells Z27 31 (0, 0)) := by rw [hwa]; exact heap_alloc_new w _
  have SM := Lib.hid (sum1 v b wa (hv.below ba) (by omega) (hG.below (b := w.heap.size) ba (by omega)))
  have HWA := Lib.hid hwa
  have BA := Lib.hid ba
  have ZA := Lib.hid za
  clear h2 hv hb hlen hZ27 lk hwa ba za hG
  generalize sha b = SC at *
  go_enter Tryd.func9, Tryd.ntmps9
  go_wp2_with fail
  rw [← HWA.out]
  refine SM.out.mono ?_
  rintro e w1 ⟨rfl, hb1⟩
  have B1 := Lib.hid (BA.out.trans (hb1.mono BA.out.size))
  have Z1 := Lib.hid ((hb1.block _ (blk_lt ZA.out)).trans ZA.out)
  clear hb1
  have zn := heap_alloc_new w1 (.cells Z27 31)
  obtain ⟨w2, hw2⟩ : ∃ w2, w2 = (w1.alloc (.cells Z27 31)).setRow w1.heap.size (bcells SC) := ⟨_, rfl⟩
  have B2 : Hid (Below w.heap.size w w2) := by
    rw [hw2]
    exact (B1.out.alloc B1.out.size _).trans (below_row _ _ B1.out.size)
  have R2 : Hid (w2.heap[w1.heap.size]? = some (.cells (bcells SC) 31 (0, 0))) := by rw [hw2]; exact setRow_heap _ _ _ _ _ _ zn
  have L12 : Hid (w.heap.size < w1.heap.size) := blk_lt Z1.out
  have Z2 : Hid (w2.heap[w.heap.size]? = some (.cells Z27 31 (0, 0))) := by
    rw [hw2, setRow_other _ _ _ _ (Nat.ne_of_lt L12.out), Below.heap_alloc _ _ _ L12.out]
    exact Z1.out
  have HW2 := Lib.hid hw2
  have S2 : Hid (w1.heap.size < w2.heap.size) := blk_lt R2.out
  clear hw2
  have zn' := Lib.hid zn
  clear zn
  have IM := Lib.hid (isMadeNil w2)
  go_wp2_with (refine wpList_store_row rfl 31 (.tmp 5) (.tmp 7) rfl w1.heap.size (bcells SC) rfl rfl 31 Z27 zn'.out IS.out ZS.out OS.out ?_)
  rw [← HW2.out]
  refine IM.out.mono ?_
  rintro e w' ⟨rfl, rfl⟩
  go_wp2_with (first
    | (refine wpList_load_row rfl 31 (.tmp 5) rfl w1.heap.size rfl 31 (bcells SC) (0, 0) _ R2.out Tryd.underlying31 rfl IS.out ?_)
    | (refine wpList_store_row rfl 31 (.tmp 4) (.tmp 14) rfl w.heap.size (bcells SC) rfl rfl 31 Z27 Z2.out IS.out ZS.out OS.out ?_))
  refine bodyPost_ret (v := .agg (bcells SC)) (results_cell_row Tryd.results9 _ _ w.heap.size 31 _ (0, 0) _ rfl (setRow_heap _ _ _ _ _ _ Z2.out) Tryd.underlying31 rfl IS.out) rfl ⟨rfl, ?_⟩
  exact B2.out.trans (below_row _ _ (Nat.le_refl _))
set_option maxRecDepth 100000 in
set_option maxHeartbeats 4000000 in
theorem sumZero (g : Nat) (b : List Int) (v : Value) (w : World) (hz : ∃ cs, w.heap[g]? = some (.cells cs 43 (0, 0)) ∧ cs[0]? = some (.map none)) (hG : Glob w) (hb : Byt b) (hlen : b.length ≤ 140737488351232) (hv : Sees w v b) :
    Calls Tryd.prog 9 #[.pointer (some ⟨g, 0, none⟩), v] w fun e w' => e = .returned (.agg (bcells (sha b))) ∧ Below w.heap.size w w' := by
  have z27 := zv27
  obtain ⟨Z27, hZ27⟩ : ∃ Z, Z = bcells (List.replicate 32 0) := ⟨_, rfl⟩
  rw [← hZ27] at z27
  have lk : (sha b).length = 32 := sha_len b hb
  have IS : Hid ((Tryd.prog.info? 31).map (·.size) = some (bcells (sha b)).size) := by show _ = _; rw [i27, bsize, lk]
  have ZS : Hid (Z27.size = (bcells (sha b)).size) := by show _ = _; rw [hZ27, bsize, bsize, lk, List.length_replicate]
  have OS := Lib.hid (bone (sha b))
  have h2 : 1 < w.heap.size := hG.lt
  obtain ⟨wa, hwa⟩ : ∃ wa, wa = w.alloc (.cells Z27 31) := ⟨_, rfl⟩
  have ba : Below w.heap.size w wa := by rw [hwa]; exact (Below.refl _ _).alloc (Nat.le_refl _) _
  have za : wa.heap[w.heap.size]? = some (.cells Z27 31 (0, 0)) := by rw [hwa]; exact heap_alloc_new w _
  have SM := Lib.hid (sum1 v b wa (hv.below ba) (by omega) (hG.below (b := w.heap.size) ba (by omega)))
  have HWA := Lib.hid hwa
  have BA := Lib.hid ba
  have ZA := Lib.hid za
  have HZ := Lib.hid hz
  clear h2 hv hb hlen hZ27 lk hwa ba za hG hz
  generalize sha b = SC at *
  go_enter Tryd.func9, Tryd.ntmps9
  go_wp2_with fail
  rw [← HWA.out]
  refine SM.out.mono ?_
  rintro e w1 ⟨rfl, hb1⟩
  have B1 := Lib.hid (BA.out.trans (hb1.mono BA.out.size))
  have Z1 := Lib.hid ((hb1.block _ (blk_lt ZA.out)).trans ZA.out)
  clear hb1
  have zn := heap_alloc_new w1 (.cells Z27 31)
  obtain ⟨w2, hw2⟩ : ∃ w2, w2 = (w1.alloc (.cells Z27 31)).setRow w1.heap.size (bcells SC) := ⟨_, rfl⟩
  have B2 : Hid (Below w.heap.size w w2) := by
    rw [hw2]
    exact (B1.out.alloc B1.out.size _).trans (below_row _ _ B1.out.size)
  have R2 : Hid (w2.heap[w1.heap.size]? = some (.cells (bcells SC) 31 (0, 0))) := by rw [hw2]; exact setRow_heap _ _ _ _ _ _ zn
  have L12 : Hid (w.heap.size < w1.heap.size) := blk_lt Z1.out
  have Z2 : Hid (w2.heap[w.heap.size]? = some (.cells Z27 31 (0, 0))) := by
    rw [hw2, setRow_other _ _ _ _ (Nat.ne_of_lt L12.out), Below.heap_alloc _ _ _ L12.out]
    exact Z1.out
  have HW2 := Lib.hid hw2
  have S2 : Hid (w1.heap.size < w2.heap.size) := blk_lt R2.out
  clear hw2
  have zn' := Lib.hid zn
  clear zn
  have IM : Hid (Calls Tryd.prog 17 #[.pointer (some ⟨g, 0, none⟩)] w2 fun e w' => e = .returned (.bool false) ∧ w2 = w') := by
    obtain ⟨cs, e1, e2⟩ := HZ.out
    exact isMadeZero g w2 ((cell_of_row w2 g 0 _ _ _ ((B2.out.block g (blk_lt e1)).trans e1)).trans e2)
  go_wp2_with (refine wpList_store_row rfl 31 (.tmp 5) (.tmp 7) rfl w1.heap.size (bcells SC) rfl rfl 31 Z27 zn'.out IS.out ZS.out OS.out ?_)
  rw [← HW2.out]
  refine IM.out.mono ?_
  rintro e w' ⟨rfl, rfl⟩
  go_wp2_with (first
    | (refine wpList_load_row rfl 31 (.tmp 5) rfl w1.heap.size rfl 31 (bcells SC) (0, 0) _ R2.out Tryd.underlying31 rfl IS.out ?_)
    | (refine wpList_store_row rfl 31 (.tmp 4) (.tmp 14) rfl w.heap.size (bcells SC) rfl rfl 31 Z27 Z2.out IS.out ZS.out OS.out ?_))
  refine bodyPost_ret (v := .agg (bcells SC)) (results_cell_row Tryd.results9 _ _ w.heap.size 31 _ (0, 0) _ rfl (setRow_heap _ _ _ _ _ _ Z2.out) Tryd.underlying31 rfl IS.out) rfl ⟨rfl, ?_⟩
  exact B2.out.trans (below_row _ _ (Nat.le_refl _))
set_option maxRecDepth 100000 in
set_option maxHeartbeats 4000000 in
theorem hasY (S : Nat → Prop) (g : Nat) (T : List (List Int)) (b : List Int) (v : Value) (w : World) (h : LG S w g T) (hT : T.length ≤ 999999) (hG : Glob w) (hb : Byt b) (hlen : b.length ≤ 140737488351232) (hv : Sees w v b) :
    Calls Tryd.prog 12 #[.pointer (some ⟨g, 0, none⟩), v] w fun e w' => e = .returned (.bool (decide (b ∈ T))) ∧ Below w.heap.size w w' := by
  have IM := Lib.hid (isMadeY S g T w h)
  have SM := Lib.hid (sum1 v b w hv (by omega) hG)
  have ST : Hid (∀ w1 : World, Below w.heap.size w w1 → Calls Tryd.prog 21 #[.pointer (some ⟨g, 0, none⟩), .agg (bcells (sha b)), v] w1 fun e w' => e = .returned (.bool (decide (b ∈ T))) ∧ Below w1.heap.size w1 w') := fun w1 hb1 => by
    obtain ⟨mb, s, f, C, h1⟩ := h.below hb1
    have := stands S g mb s T f C (sha b) b v w1 h1 (sha_byt b) (sha_len b hb) (hv.below hb1) (by omega)
    rw [show decide (b ∈ ofSum sha T (sha b)) = decide (b ∈ T) from by rw [decide_eq_decide, mem_ofSum]; exact ⟨fun h => h.1, fun h => ⟨h, rfl⟩⟩] at this
    exact this
  obtain ⟨q, hq⟩ : ∃ q, q = decide (b ∈ T) := ⟨_, rfl⟩
  rw [← hq] at ST ⊢
  generalize sha b = SC at *
  clear h hv hT hG hb hlen hq
  go_enter Tryd.func12, Tryd.ntmps12
  go_wp2_with fail
  refine IM.out.mono ?_
  rintro e w' ⟨rfl, rfl⟩
  go_wp2_with fail
  refine SM.out.mono ?_
  rintro e w1 ⟨rfl, hb1⟩
  have B1 := Lib.hid hb1
  clear hb1
  go_wp2_with fail
  refine (ST.out w1 B1.out).mono ?_
  rintro e w2 ⟨rfl, hb2⟩
  have B2 := Lib.hid (B1.out.trans (hb2.mono B1.out.size))
  clear hb2
  go_wp2_with fail
  go_ret
  exact ⟨rfl, B2.out⟩
theorem hasNil (v : Value) (w : World) : Calls Tryd.prog 12 #[.pointer none, v] w fun e w' => e = .returned (.bool false) ∧ w = w' := by
  go_enter Tryd.func12, Tryd.ntmps12
  go_wp2_with fail
  refine (isMadeNil w).mono ?_
  rintro e w' ⟨rfl, rfl⟩
  go_wp2_with fail
  go_ret
  exact ⟨rfl, rfl⟩
theorem hasZero (g : Nat) (v : Value) (w : World) (c0 : w.cell? ⟨g, 0, none⟩ = some (.map none)) : Calls Tryd.prog 12 #[.pointer (some ⟨g, 0, none⟩), v] w fun e w' => e = .returned (.bool false) ∧ w = w' := by
  have IM := Lib.hid (isMadeZero g w c0)
  clear c0
  go_enter Tryd.func12, Tryd.ntmps12
  go_wp2_with fail
  refine IM.out.mono ?_
  rintro e w' ⟨rfl, rfl⟩
  go_wp2_with fail
  go_ret
  exact ⟨rfl, rfl⟩
theorem clashNil (w : World) : Calls Tryd.prog 14 #[.pointer none] w fun e w' => e = .returned (.tuple #[.slice none 0 0, .slice none 0 0, .bool false]) ∧ w = w' := by
  go_enter Tryd.func14, Tryd.ntmps14
  go_wp2_with fail
  go_ret3
  exact ⟨rfl, rfl⟩
theorem clashNo (g : Nat) (w : World) (c2 : w.cell? ⟨g, 2, none⟩ = some (.bool false)) : Calls Tryd.prog 14 #[.pointer (some ⟨g, 0, none⟩)] w fun e w' => e = .returned (.tuple #[.slice none 0 0, .slice none 0 0, .bool false]) ∧ w = w' := by
  go_enter Tryd.func14, Tryd.ntmps14
  go_wp2_with fail
  go_ret3
  exact ⟨rfl, rfl⟩
theorem clashY0 (S : Nat → Prop) (g : Nat) (T : List (List Int)) (w : World) (h : LG S w g T) (hc : clk sha T = none) : Calls Tryd.prog 14 #[.pointer (some ⟨g, 0, none⟩)] w fun e w' => e = .returned (.tuple #[.slice none 0 0, .slice none 0 0, .bool false]) ∧ w = w' := by
  obtain ⟨mb, s, f, C, h⟩ := h
  have := h.c2
  rw [hc] at this
  exact clashNo g w this
end Go.Proofs.YtboaceabimlodaaDoor
