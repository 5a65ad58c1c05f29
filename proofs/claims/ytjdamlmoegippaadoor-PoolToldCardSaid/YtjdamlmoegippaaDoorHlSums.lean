/-
  Contracts of the functions that the statements of package sha go through: a new hash, Write, Sum; Both and Sum of texts. Condition: the slices read as bytes, fewer than 2^50 in all.
-/
import Derived.Test.YtjdamlmoegippaaDoorHlEnd
namespace Go.Proofs.YtjdamlmoegippaaDoor.hl
open Go.RowKit
theorem glob_range {w : World} (h : Glob w) : w.rangeAt 0 0 (ucells SQ).toList := fun j v hv => by
  have hj : j < 8 := by
    rcases Nat.lt_or_ge j 8 with h | h
    · exact h
    · rw [List.getElem?_eq_none (by simp [ucells, SQ]; exact h)] at hv; cases hv
  rw [Nat.zero_add, h.1 j hj, ← hv]
  simp [ucells, nth, List.getD, show j < SQ.length from hj]
set_option maxRecDepth 100000 in
set_option maxHeartbeats 2000000 in
theorem newh (w : World) (hG : Glob w) : Calls Tryd.prog 63 #[] w fun e1 w' => e1 = .returned (.pointer (some ⟨w.heap.size, 0, none⟩)) ∧ w.alloc (.cells (hcells true h0.H h0.B h0.n ((0 : Nat) : Int)) 129) = w' := by
  have hz : ∀ w, (zeroValue 129).run Tryd.prog w = .ok (.agg #[.bool false, .int .u32 0, .int .u32 0, .int .u32 0, .int .u32 0, .int .u32 0, .int .u32 0, .int .u32 0, .int .u32 0, .int .u8 0, .int .u8 0, .int .u8 0, .int .u8 0, .int .u8 0, .int .u8 0, .int .u8 0, .int .u8 0, .int .u8 0, .int .u8 0, .int .u8 0, .int .u8 0, .int .u8 0, .int .u8 0, .int .u8 0, .int .u8 0, .int .u8 0, .int .u8 0, .int .u8 0, .int .u8 0, .int .u8 0, .int .u8 0, .int .u8 0, .int .u8 0, .int .u8 0, .int .u8 0, .int .u8 0, .int .u8 0, .int .u8 0, .int .u8 0, .int .u8 0, .int .u8 0, .int .u8 0, .int .u8 0, .int .u8 0, .int .u8 0, .int .u8 0, .int .u8 0, .int .u8 0, .int .u8 0, .int .u8 0, .int .u8 0, .int .u8 0, .int .u8 0, .int .u8 0, .int .u8 0, .int .u8 0, .int .u8 0, .int .u8 0, .int .u8 0, .int .u8 0, .int .u8 0, .int .u8 0, .int .u8 0, .int .u8 0, .int .u8 0, .int .u8 0, .int .u8 0, .int .u8 0, .int .u8 0, .int .u8 0, .int .u8 0, .int .u8 0, .int .u8 0, .int .i64 0, .int .u64 0]) w := fun _ => by kernel_rfl
  have i40 : (Tryd.prog.info? 127).map (·.size) = some (ucells SQ).toList.length := by kernel_rfl
  have RG := Lib.hid (glob_range hG)
  have I40 := Lib.hid i40
  clear hG i40
  go_enter Tryd.func63, Tryd.ntmps63
  go_wp2_with (refine wpList_load_mid rfl 127 (.global 0) rfl 0 0 rfl (ucells SQ).toList _ RG.out Tryd.underlying127 rfl I40.out ?_)
  go_ret
  exact ⟨rfl, rfl⟩
/-- A new hash lies in its block. -/
theorem new_at (w : World) : HSat (w.alloc (.cells (hcells true h0.H h0.B h0.n ((0 : Nat) : Int)) 129)) w.heap.size h0 ((0 : Nat) : Int) := ⟨h0_ok, heap_alloc_new w _⟩
theorem und44 : Tryd.prog.underlying 129 = some (.struct ((Tryd.prog.underlying 129).casesOn #[] (fun d => match d with | .struct f => f | _ => #[]))) := by kernel_rfl
theorem i44 : (Tryd.prog.info? 129).map (·.size) = some 75 := by kernel_rfl
theorem hsize {H B : List Int} {m : Bool} {n c : Int} (hH : H.length = 8) (hB : B.length = 64) : (hcells m H B n c).size = 75 := by rw [hcells_eq]; simp [hlist, hH, hB]
/-- The slice v reads, in w, as texts. -/
def SeesL (w : World) (v : Value) (xss : List (List Int)) : Prop :=
  (∃ x cap, v = .slice x 0 cap ∧ xss = []) ∨ ∃ b o cap, v = .slice (some ⟨b, o, none⟩) xss.length cap ∧ xss.length ≤ 1125899906842624 ∧ ∀ i, i < xss.length → ∃ u, w.cell? ⟨b, o + i, none⟩ = some u ∧ Sees w u (xss.getD i [])
theorem SeesL.below {w w' : World} {v : Value} {xss : List (List Int)} (h : SeesL w v xss) (hb : Below w.heap.size w w') : SeesL w' v xss := by
  rcases h with h | ⟨b, o, cap, h1, h2, h3⟩
  · exact .inl h
  · refine .inr ⟨b, o, cap, h1, h2, fun i hi => ?_⟩
    obtain ⟨u, hu, hs⟩ := h3 i hi
    exact ⟨u, by rw [hb.cell (World.block_lt_of_cell? w _ hu)]; exact hu, hs.below hb⟩
theorem flat_take (xss : List (List Int)) (k : Nat) (h : k < xss.length) : (xss.take (k + 1)).flatten = (xss.take k).flatten ++ xss.getD k [] := by
  rw [List.take_succ_eq_append_getElem h, List.flatten_append]
  simp [List.getD, h]
theorem flat_le (xss : List (List Int)) (k : Nat) : ((xss.take k).flatten).length ≤ xss.flatten.length := by
  conv => rhs; rw [← List.take_append_drop k xss, List.flatten_append, List.length_append]
  omega
set_option maxRecDepth 100000 in
set_option maxHeartbeats 4000000 in
theorem both (v : Value) (xss : List (List Int)) (w : World) (hv : SeesL w v xss) (hl : xss.flatten.length ≤ 1125899906842624) (hG : Glob w) :
    Calls Tryd.prog 59 #[v] w fun e w' => e = .returned (.agg (bcells (sha xss.flatten))) ∧ Below w.heap.size w w' := by
  have z27 := zv27
  obtain ⟨Z27, hZ27⟩ : ∃ Z, Z = bcells (List.replicate 32 0) := ⟨_, rfl⟩
  rw [← hZ27] at z27
  have HZ27 := Lib.hid hZ27
  have hsz := hG.lt
  have hG1 : Glob (w.alloc (.cells Z27 24)) := hG.below (b := w.heap.size) ((Below.refl _ _).alloc (Nat.le_refl _) _) (by omega)
  have NW := Lib.hid (newh (w.alloc (.cells Z27 24)) hG1)
  have HV := Lib.hid hv
  have HGL := Lib.hid hG
  have HSZ := Lib.hid hsz
  have hform : ∃ x cap, v = .slice x xss.length cap ∧ xss.length ≤ 1125899906842624 := by
    rcases hv with ⟨x, cap, rfl, rfl⟩ | ⟨b, o, cap, rfl, h, _⟩
    · exact ⟨_, _, rfl, by simp⟩
    · exact ⟨_, _, rfl, h⟩
  obtain ⟨x, cap, rfl, hn⟩ := hform
  have hni : (xss.length : Int) ≤ 1125899906842624 := by omega
  clear hZ27 hG hsz hv hG1
  go_enter Tryd.func59, Tryd.ntmps59
  go_wp2_with fail
  refine NW.out.mono ?_
  rintro e w1 ⟨rfl, hw1⟩
  have hst := new_at (w.alloc (.cells Z27 24))
  rw [hw1] at hst
  have hb1 : Below w.heap.size w w1 := by rw [← hw1]; exact ((Below.refl _ _).alloc (Nat.le_refl _) _).alloc (by simp) _
  have hk1 : w1.heap[w.heap.size]? = some (.cells Z27 24 (0, 0)) := by rw [← hw1, Below.heap_alloc _ _ _ (by simp)]; exact heap_alloc_new w _
  have hgs : (w.alloc (.cells Z27 24)).heap.size = w.heap.size + 1 := by simp
  rw [hgs] at hst
  have HST := Lib.hid hst
  have HB1 := Lib.hid hb1
  have HK1 := Lib.hid hk1
  clear hst hb1 hk1 hw1 hgs
  go_wp2_with fail
  go_loopw [9] (fun vi wr => ∃ k : Nat, k ≤ xss.length ∧ vi = .int .i64 k ∧ HSat wr (w.heap.size + 1) (puts h0 (xss.take k).flatten) (((xss.take k).flatten.length : Nat) : Int) ∧ wr.heap[w.heap.size]? = some (.cells Z27 24 (0, 0)) ∧ Below w.heap.size w wr) (fun vi _ => xss.length - (intOf vi).toNat)
  case atStart => exact ⟨0, by omega, rfl, HST.out, HK1.out, HB1.out⟩
  case round =>
    obtain ⟨k, hk, rfl, hst, hk0, hbel⟩ := hrel
    have HNG : Hid (2 ≤ w.heap.size + 1) := by show _ ≤ _; have := HSZ.out; omega
    by_cases hlt : k < xss.length
    · obtain ⟨b, o, hxe, u, hu, hsu⟩ : ∃ b o, x = some ⟨b, o, none⟩ ∧ ∃ u, w.cell? ⟨b, o + k, none⟩ = some u ∧ Sees w u (xss.getD k []) := by
        rcases HV.out with ⟨_, _, _, e⟩ | ⟨b, o, c', e, _, h⟩
        · rw [e] at hlt; simp at hlt
        · simp only [Value.slice.injEq] at e
          obtain ⟨rfl, _, _⟩ := e
          exact ⟨b, o, rfl, h k hlt⟩
      subst hxe
      have hcu : wr.cell? ⟨b, o + k, none⟩ = some u := by rw [hbel.cell (World.block_lt_of_cell? w _ hu)]; exact hu
      have hsw : Sees wr u (xss.getD k []) := hsu.below hbel
      have hft := flat_take xss k hlt
      have hfl := flat_le xss (k + 1)
      have hnb : xss.getD k [] ≠ [] → u.ownBlock ≠ some (w.heap.size + 1) := fun h0 => by
        obtain ⟨_, ⟨_, e⟩ | ⟨_, _, _, e, _⟩ | ⟨b', o', c', rfl, _, _, _, hc'⟩⟩ := hsu
        · exact absurd e h0
        · exact absurd e h0
        · have : b' < w.heap.size := World.block_lt_of_cell? w _ (hc' 0 (List.length_pos_iff.2 h0))
          simp [Value.ownBlock]; omega
      have hAD : Calls Tryd.prog 64 #[.pointer (some ⟨w.heap.size + 1, 0, none⟩), u] wr (fun e w' => e = .returned (.tuple #[]) ∧ HSat w' (w.heap.size + 1) (puts h0 (xss.take (k + 1)).flatten) (((xss.take (k + 1)).flatten.length : Nat) : Int) ∧ wr.grownBy w' (some (w.heap.size + 1))) :=
        (add (w.heap.size + 1) _ _ u (xss.getD k []) wr hst hsw hnb (by rw [hft, List.length_append] at hfl; omega) HNG.out (HGL.out.below hbel (by have := HSZ.out; omega))).mono fun e w' h => by
          unfold AddP at h
          rw [← puts_append, ← List.length_append, ← hft] at h
          exact h
      have AD := Lib.hid hAD
      have HK0 := Lib.hid hk0
      have HB := Lib.hid hbel
      have HLT := Lib.hid hlt
      have hki : (k : Int) < xss.length := by omega
      clear hst hk0 hbel hsu hsw hft hfl hnb hu hAD
      go_wp2_with fail
      refine AD.out.mono ?_
      rintro e w2 ⟨rfl, hst2, hg2⟩
      have HST2 := Lib.hid hst2
      have HK2 : Hid (w2.heap[w.heap.size]? = some (.cells Z27 24 (0, 0))) := by
        show _ = _
        rw [hg2.block _ (blk_lt HK0.out) (by simp)]; exact HK0.out
      have HB2 : Hid (Below w.heap.size w w2) := HB.out.grown hg2 HB.out.size (fun j e => by rw [← Option.some.inj e]; omega)
      clear hst2 hg2 hcu
      go_wp2_with fail
      go_roundw
      case rel => exact ⟨k + 1, by have := HLT.out; omega, by go_num, HST2.out, HK2.out, HB2.out⟩
      case measure => simp [intOf]; have := HLT.out; omega
    · have hkl : k = xss.length := by omega
      subst hkl
      rw [List.take_length] at hst
      have hsl : (sha xss.flatten).length = 32 := sumOf_len _ hst.1 _
      have iS : (Tryd.prog.info? 24).map (·.size) = some (bcells (sha xss.flatten)).size := by rw [i27, bsize, hsl]
      have zS : Z27.size = (bcells (sha xss.flatten)).size := by rw [HZ27.out, bsize, bsize, hsl, List.length_replicate]
      have oS := bone (sha xss.flatten)
      have hsz : (Tryd.prog.info? 129).map (·.size) = some (hcells true (puts h0 xss.flatten).H (puts h0 xss.flatten).B (puts h0 xss.flatten).n ((xss.flatten.length : Nat) : Int)).size := by rw [i44, hsize hst.1.1 hst.1.2.2.1]
      have EN := Lib.hid (end_ (puts h0 xss.flatten) hst.1 xss.flatten.length (by omega) wr (HGL.out.below hbel (by have := HSZ.out; omega)))
      rw [show sumOf (puts h0 xss.flatten) xss.flatten.length = sha xss.flatten from rfl] at EN
      have HROW := Lib.hid hst.2
      have HSZ4 := Lib.hid hsz
      have IS := Lib.hid iS
      have ZS := Lib.hid zS
      have OS := Lib.hid oS
      have HK0 := Lib.hid hk0
      have HB := Lib.hid hbel
      clear hst hsl iS zS oS hsz hk0 hbel
      generalize hcells true (puts h0 xss.flatten).H (puts h0 xss.flatten).B (puts h0 xss.flatten).n ((xss.flatten.length : Nat) : Int) = HC at *
      go_wp2_with (refine wpList_load_row rfl 129 _ rfl (w.heap.size + 1) rfl 129 HC (0, 0) _ HROW.out und44 rfl HSZ4.out ?_)
      refine EN.out.mono ?_
      rintro e w2 ⟨rfl, hb⟩
      have hk2 : w2.heap[w.heap.size]? = some (.cells Z27 24 (0, 0)) := by rw [hb.block _ (blk_lt HK0.out)]; exact HK0.out
      have HB2 : Hid (Below w.heap.size w w2) := HB.out.trans (hb.mono HB.out.size)
      clear hb
      go_wp2_with (refine wpList_store_row rfl 24 _ _ rfl w.heap.size (bcells (sha xss.flatten)) rfl rfl 24 Z27 hk2 IS.out ZS.out OS.out ?_)
      refine bodyPost_ret (v := .agg (bcells (sha xss.flatten))) (results_cell_row Tryd.results59 _ _ w.heap.size 24 _ (0, 0) _ rfl (setRow_heap _ _ _ _ _ _ hk2) Tryd.underlying24 rfl IS.out) rfl ⟨rfl, ?_⟩
      exact HB2.out.trans (below_row _ _ (Nat.le_refl _))
set_option maxRecDepth 100000 in
theorem sum1 (v : Value) (xs : List Int) (w : World) (hv : Sees w v xs) (hl : xs.length ≤ 1125899906842624) (hG : Glob w) :
    Calls Tryd.prog 46 #[v] w fun e w' => e = .returned (.agg (bcells (sha xs))) ∧ Below w.heap.size w w' := by
  obtain ⟨x, cap, rfl, _⟩ := hv.form
  have z27 := zv27
  obtain ⟨Z27, hZ27⟩ : ∃ Z, Z = bcells (List.replicate 32 0) := ⟨_, rfl⟩
  rw [← hZ27] at z27
  have hsz := hG.lt
  have hB : Below w.heap.size w ((w.alloc (.cells Z27 24)).alloc (.cells #[.slice x xs.length cap] 37)) := ((Below.refl _ _).alloc (Nat.le_refl _) _).alloc (by simp) _
  have hsl : (sha xs).length = 32 := sha_len xs hv.1
  have iS : (Tryd.prog.info? 24).map (·.size) = some (bcells (sha xs)).size := by rw [i27, bsize, hsl]
  have zS : Z27.size = (bcells (sha xs)).size := by rw [hZ27, bsize, bsize, hsl, List.length_replicate]
  have oS := bone (sha xs)
  have hL : SeesL ((w.alloc (.cells Z27 24)).alloc (.cells #[.slice x xs.length cap] 37)) (.slice (some ⟨w.heap.size + 1, 0, none⟩) 1 1) [xs] := by
    refine .inr ⟨w.heap.size + 1, 0, 1, rfl, by simp, fun i hi => ?_⟩
    obtain rfl : i = 0 := by simpa using hi
    exact ⟨_, by rw [cell_of_row _ _ _ _ _ _ (heap_alloc2_new w _ _)]; rfl, hv.below hB⟩
  have BT := Lib.hid (both _ [xs] _ hL (by simpa using hl) (hG.below hB (by omega)))
  have hk : ((w.alloc (.cells Z27 24)).alloc (.cells #[.slice x xs.length cap] 37)).heap[w.heap.size]? = some (.cells Z27 24 (0, 0)) := by rw [Below.heap_alloc _ _ _ (by simp)]; exact heap_alloc_new w _
  have hfl : [xs].flatten = xs := by simp
  rw [hfl] at BT
  have HK := Lib.hid hk
  have HB := Lib.hid hB
  have IS := Lib.hid iS
  have ZS := Lib.hid zS
  have OS := Lib.hid oS
  clear hZ27 hsz hsl iS zS oS hL hk hB hv hG hfl
  go_enter Tryd.func46, Tryd.ntmps46
  go_wp2_with fail
  refine BT.out.mono ?_
  rintro e w1 ⟨rfl, hb⟩
  have hk1 : w1.heap[w.heap.size]? = some (.cells Z27 24 (0, 0)) := by rw [hb.block _ (blk_lt HK.out)]; exact HK.out
  have HB1 : Hid (Below w.heap.size w w1) := HB.out.trans (hb.mono HB.out.size)
  clear hb
  go_wp2_with (refine wpList_store_row rfl 24 _ _ rfl w.heap.size (bcells (sha xs)) rfl rfl 24 Z27 hk1 IS.out ZS.out OS.out ?_)
  refine bodyPost_ret (v := .agg (bcells (sha xs))) (results_cell_row Tryd.results46 _ _ w.heap.size 24 _ (0, 0) _ rfl (setRow_heap _ _ _ _ _ _ hk1) Tryd.underlying24 rfl IS.out) rfl ⟨rfl, ?_⟩
  exact HB1.out.trans (below_row _ _ (Nat.le_refl _))
end Go.Proofs.YtjdamlmoegippaaDoor.hl
