/-
  Contracts of the functions that the statements of package hmac go through: marks. Condition: key and texts read as bytes, fewer than 2^49.
-/
import Derived.Test.YtmkaagiabafooaaDoorPads
import Derived.Deep.RegionWith
namespace Go.Proofs.YtmkaagiabafooaaDoor
open Go.RowKit
/-- The mark of a text. -/
def mac (k b : List Int) : List Int := sha (pad k 92 ++ sha (pad k 54 ++ b))
theorem mac_len (k b : List Int) (hk : Byt k) : (mac k b).length = 32 := sha_len _ ((pad_byt k 92 (by omega) hk).append (sha_byt _))
theorem mac_byt (k b : List Int) : Byt (mac k b) := sha_byt _
/-- An append of texts whose run is known, in a plain region. -/
theorem wpList_appL {ops : Array Oper} {rest : List Oper} {o : Oper} {a : Act} {w : World} {Q : Exit → Act → World → Prop} (hgd : o.guard = none) (s x : Operand)
    (ho : o.op = .call { callee := .builtin .append, args := #[s, x], argTypes := #[23, 23] }) (hty : o.type = 23) {v u v' : Value} {w' : World} (hs : a.eval s = v) (hx : a.eval x = u)
    (hr : (Builtin.append_ #[23, 23] 23 #[v, u]).run Tryd.prog w = .ok v' w') (h : wpList Tryd.prog ops Q rest (a.put o.dst v') w') : wpList Tryd.prog ops Q (o :: rest) a w := by
  refine wpList_plain hgd fun K hK => ?_
  unfold Oper.wp execOp
  simp only [ho, hty, resolve, invoke, builtin, Sem.run_bind, Sem.run_pure, Result.andThen_ok, List.map_toArray, List.map_cons, List.map_nil, hs, hx, hr]
  exact hK _ _ h
theorem info22 : (Tryd.prog.info? 22).map (fun i => (i.zero, i.size, i.bytes)) = some (some (.slice none 0 0), 1, 24) := by kernel_rfl
/-- Block g holds slices that read as texts. -/
def LitL (w : World) (g : Nat) (vs : List Value) (yss : List (List Int)) : Prop :=
  w.heap[g]? = some (.cells vs.toArray 22 (0, 0)) ∧ vs.length = yss.length ∧ ∀ i, i < vs.length → Sees w (vs.getD i undef) (yss.getD i [])
theorem LitL.below {w w' : World} {g : Nat} {vs : List Value} {yss : List (List Int)} (h : LitL w g vs yss) (hb : Below w.heap.size w w') : LitL w' g vs yss :=
  ⟨by rw [hb.block _ (blk_lt h.1)]; exact h.1, h.2.1, fun i hi => (h.2.2 i hi).below hb⟩
theorem sees_one {w : World} {v : Value} {xs : List Int} (h : Sees w v xs) : v.oneCell' = true := by
  obtain ⟨x, c, rfl, _⟩ := h.form; rfl
/-- A text ahead of others. -/
theorem app_texts {w : World} {v : Value} {xs : List Int} {g : Nat} {vs : List Value} {yss : List (List Int)} (hx : Sees w v xs) (hy : LitL w g vs yss) (hn : vs.length ≤ 8) (c : Nat) :
    ∃ x cap w', (Builtin.append_ #[23, 23] 23 #[.slice (some ⟨w.heap.size, 0, none⟩) 1 1, .slice (some ⟨g, 0, none⟩) vs.length c]).run Tryd.prog (w.alloc (.cells #[v] 22)) = .ok (.slice x (1 + vs.length) cap) w' ∧
      SeesL w' (.slice x (1 + vs.length) cap) (xs :: yss) ∧ Below w.heap.size w w' := by
  obtain ⟨i, hi, hz0, hz1, hz2⟩ := info_parts info22
  have hB0 : Below w.heap.size w (w.alloc (.cells #[v] 22)) := (Below.refl _ _).alloc (Nat.le_refl _) _
  have hown : (w.alloc (.cells #[v] 22)).ownsRow w.heap.size 22 1 (.slice (some ⟨w.heap.size, 0, none⟩) 1 1) 1 [v] :=
    ⟨rfl, .inr ⟨w.heap.size, 1, #[v], rfl, Nat.le_refl _, heap_alloc_new w _, Nat.le_refl _, by decide, rfl, rfl⟩⟩
  have hy1 := hy.below hB0
  have hm : 1 + vs.length ≤ maxLen := by unfold maxLen; omega
  obtain ⟨v', w', hr, ho, hg, _⟩ := run_append_own (P := Tryd.prog) (w.alloc (.cells #[v] 22)) w.heap.size 23 23 22 i _ 1 24 Tryd.underlying23 hi hz0 hz1 hz2 rfl (by decide) _ 1 _ hown ⟨g, 0, none⟩ vs.length c vs (by simp) (fun j u hj => by
      rw [addr_add, Nat.zero_add, cell_of_row _ _ _ _ _ _ hy1.1]; simpa using hj) (fun u hu => by
      obtain ⟨j, hj, rfl⟩ := List.mem_iff_getElem.1 hu
      have := hy.2.2 j hj
      simp only [List.getD, List.getElem?_eq_getElem hj, Option.getD_some] at this
      exact sees_one this) hm (by omega) (by simp)
  have hbel : Below w.heap.size w w' := hB0.grown hg (by simp) (fun k e => by simp [Value.ownBlock] at e; omega)
  obtain ⟨hlen, ⟨rfl, h0⟩ | ⟨g', cap, cur, rfl, hbg, hg', hn', hm', hs', ht'⟩⟩ := ho
  · omega
  · refine ⟨_, cap, w', hr, .inr ⟨g', 0, cap, by simp [hy.2.1, Nat.add_comm], by simp [← hy.2.1]; omega, fun j hj => ?_⟩, hbel⟩
    have hj1 : j < 1 + vs.length := by simp [← hy.2.1] at hj; omega
    have hcell : w'.cell? ⟨g', 0 + j, none⟩ = (v :: vs)[j]? := by
      rw [cell_of_row _ _ _ _ _ _ hg', Nat.zero_add]
      have : (cur.toList.take ((1 + vs.length) * 1))[j]? = (v :: vs)[j]? := by rw [ht']; rfl
      rw [List.getElem?_take_of_lt (by omega)] at this
      simpa using this
    cases j with
    | zero => exact ⟨v, by rw [hcell]; rfl, hx.below hbel⟩
    | succ j =>
      have hjv : j < vs.length := by omega
      refine ⟨vs[j], by rw [hcell]; simp [hjv], ?_⟩
      have := (hy.2.2 j hjv).below hbel
      simp only [List.getD, List.getElem?_eq_getElem hjv, Option.getD_some] at this
      simpa [List.getD] using this
set_option maxRecDepth 100000 in
set_option maxHeartbeats 4000000 in
theorem mark (v : Value) (k : List Int) (g c : Nat) (vs : List Value) (yss : List (List Int)) (w : World) (hv : Sees w v k) (hk : k.length ≤ 562949953421312) (hy : LitL w g vs yss) (hn : vs.length ≤ 8) (hfl : yss.flatten.length ≤ 562949953421312) (hG : Glob w) :
    Calls Tryd.prog 38 #[v, .slice (some ⟨g, 0, none⟩) vs.length c] w fun e w' => e = .returned (.agg (bcells (mac k yss.flatten))) ∧ Below w.heap.size w w' := by
  obtain ⟨x, cap, rfl, hl63⟩ := id hv.form
  have z27 := zv27
  obtain ⟨Z27, hZ27⟩ : ∃ Z, Z = bcells (List.replicate 32 0) := ⟨_, rfl⟩
  rw [← hZ27] at z27
  have h2 : 2 ≤ w.heap.size := by have := hG.lt; omega
  have hB0 : Below w.heap.size w (w.alloc (.cells Z27 27)) := (Below.refl _ _).alloc (Nat.le_refl _) _
  have PD := Lib.hid (pads _ k (w.alloc (.cells Z27 27)) (hv.below hB0) (by omega) (hG.below hB0 h2))
  have hkb := hv.1
  have hfl64 := fill_len k hkb
  have hfb := fill_byt k hkb
  have p54 := pad_len k 54 hkb
  have p92 := pad_len k 92 hkb
  have b54 := pad_byt k 54 (by omega) hkb
  have b92 := pad_byt k 92 (by omega) hkb
  have hyb : Byt yss.flatten := fun z hz => by
    obtain ⟨l, hl, hzl⟩ := List.mem_flatten.1 hz
    obtain ⟨j, hj, rfl⟩ := List.mem_iff_getElem.1 hl
    have := (hy.2.2 j (by rw [hy.2.1]; exact hj)).1
    simp only [List.getD, List.getElem?_eq_getElem hj, Option.getD_some] at this
    exact this z hzl
  obtain ⟨I, hI⟩ : ∃ I, I = sha (pad k 54 ++ yss.flatten) := ⟨_, rfl⟩
  obtain ⟨M, hM⟩ : ∃ M, M = mac k yss.flatten := ⟨_, rfl⟩
  have lI : I.length = 32 := by rw [hI]; exact sha_len _ (b54.append hyb)
  have bI : Byt I := by rw [hI]; exact sha_byt _
  have lM : M.length = 32 := by rw [hM]; exact mac_len k _ hkb
  have II := Lib.hid (show (Tryd.prog.info? 27).map (·.size) = some (bcells I).size by rw [i27, bsize, lI])
  have ZI := Lib.hid (show Z27.size = (bcells I).size by rw [hZ27, bsize, bsize, lI, List.length_replicate])
  have OI := Lib.hid (bone I)
  have IM := Lib.hid (show (Tryd.prog.info? 27).map (·.size) = some (bcells M).size by rw [i27, bsize, lM])
  have ZM := Lib.hid (show Z27.size = (bcells M).size by rw [hZ27, bsize, bsize, lM, List.length_replicate])
  have OM := Lib.hid (bone M)
  have BT1 : Hid (∀ W u, Glob W → SeesL W u (pad k 54 :: yss) → Calls Tryd.prog 15 #[u] W fun e w' => e = .returned (.agg (bcells I)) ∧ Below W.heap.size W w') := fun W u hg hu => by
    have h := both u _ W hu (by rw [List.flatten_cons, List.length_append, p54]; omega) hg
    rw [List.flatten_cons, ← hI] at h; exact h
  have BT2 : Hid (∀ W u, Glob W → SeesL W u [pad k 92, I] → Calls Tryd.prog 15 #[u] W fun e w' => e = .returned (.agg (bcells M)) ∧ Below W.heap.size W w') := fun W u hg hu => by
    have h := both u _ W hu (by simp [p92, lI]) hg
    rw [show [pad k 92, I].flatten = pad k 92 ++ I by simp, hI, show sha (pad k 92 ++ sha (pad k 54 ++ yss.flatten)) = M from hM.symm] at h; exact h
  have HB0 := Lib.hid hB0
  have HF64 := Lib.hid hfl64
  have HFB := Lib.hid hfb
  have P54 := Lib.hid p54
  have P92 := Lib.hid p92
  have B54 := Lib.hid b54
  have B92 := Lib.hid b92
  have LI := Lib.hid lI
  have BI := Lib.hid bI
  have HY := Lib.hid hy
  have HGL := Lib.hid hG
  have H2 := Lib.hid h2
  have HN := Lib.hid hn
  have HM := Lib.hid hM
  have K0 := Lib.hid (show (w.alloc (.cells Z27 27)).heap[w.heap.size]? = some (.cells Z27 27 (0, 0)) from heap_alloc_new w _)
  have hsl2 := arr32_all
  clear hZ27 hB0 hkb hfl64 hfb p54 p92 b54 b92 hyb hI hM lI bI lM hv hy hG h2 hn hk hfl
  go_enter Tryd.func38, Tryd.ntmps38
  go_wp2_with fail
  refine PD.out.mono ?_
  rintro e w1 ⟨rfl, hF, hb⟩
  have B1 : Hid (Below w.heap.size w w1) := HB0.out.trans (hb.mono HB0.out.size)
  have hgs : (w.alloc (.cells Z27 27)).heap.size = w.heap.size + 1 := by simp
  rw [hgs] at hF
  have K1 : Hid (w1.heap[w.heap.size]? = some (.cells Z27 27 (0, 0))) := by
    show _ = _
    rw [hb.block _ (blk_lt K0.out)]; exact K0.out
  have HF := Lib.hid hF
  clear hb hF hgs
  go_wp2_with fail
  refine (padc (w.heap.size + 1) (fill k) 54 (by omega) HF64.out HFB.out w1 HF.out).mono ?_
  rintro e w2 ⟨G, rfl, hrow, hGs, hb⟩
  have B2 : Hid (Below w.heap.size w w2) := B1.out.trans (hb.mono B1.out.size)
  have K2 : Hid (w2.heap[w.heap.size]? = some (.cells Z27 27 (0, 0))) := by
    show _ = _
    rw [hb.block _ (blk_lt K1.out)]; exact K1.out
  have HF2 : Hid (w2.heap[w.heap.size + 1]? = some (.cells (bcells (fill k)) 41 (0, 0))) := by
    show _ = _
    rw [hb.block _ (blk_lt HF.out)]; exact HF.out
  have hsp : Sees w2 (.slice (some ⟨G, 0, none⟩) 64 64) (pad k 54) := sees_arr P54.out B54.out hrow
  obtain ⟨y, cp, w3, hr, hL, hb3⟩ := app_texts hsp (HY.out.below B2.out) HN.out c
  have R3 := Lib.hid hr
  have L3 := Lib.hid hL
  have B3 : Hid (Below w.heap.size w w3) := B2.out.trans (hb3.mono B2.out.size)
  have K3 : Hid (w3.heap[w.heap.size]? = some (.cells Z27 27 (0, 0))) := by
    show _ = _
    rw [hb3.block _ (blk_lt K2.out)]; exact K2.out
  have HF3 : Hid (w3.heap[w.heap.size + 1]? = some (.cells (bcells (fill k)) 41 (0, 0))) := by
    show _ = _
    rw [hb3.block _ (blk_lt HF2.out)]; exact HF2.out
  clear hrow hGs hb hsp hr hL hb3 HF K1 HF2 K2
  go_wp2_with (at_builtin; refine wpList_appL rfl (.tmp 11) (.tmp 12) rfl rfl rfl rfl R3.out ?_)
  refine (BT1.out _ _ (HGL.out.below B3.out H2.out) L3.out).mono ?_
  rintro e w4 ⟨rfl, hb⟩
  have q5 : Below w4.heap.size w4 ((w4.alloc (.cells Z27 27)).setRow w4.heap.size (bcells I)) := ((Below.refl _ _).alloc (Nat.le_refl _) _).trans (below_row _ _ (Nat.le_refl _))
  have b4 : Below w.heap.size w w4 := B3.out.trans (hb.mono B3.out.size)
  have B5 : Hid (Below w.heap.size w ((w4.alloc (.cells Z27 27)).setRow w4.heap.size (bcells I))) := b4.trans (q5.mono b4.size)
  have K5 : Hid (((w4.alloc (.cells Z27 27)).setRow w4.heap.size (bcells I)).heap[w.heap.size]? = some (.cells Z27 27 (0, 0))) := by
    have h4 : w4.heap[w.heap.size]? = some (.cells Z27 27 (0, 0)) := by rw [hb.block _ (blk_lt K3.out)]; exact K3.out
    show _ = _
    rw [q5.block _ (blk_lt h4)]; exact h4
  have HF5 : Hid (((w4.alloc (.cells Z27 27)).setRow w4.heap.size (bcells I)).heap[w.heap.size + 1]? = some (.cells (bcells (fill k)) 41 (0, 0))) := by
    have h4 : w4.heap[w.heap.size + 1]? = some (.cells (bcells (fill k)) 41 (0, 0)) := by rw [hb.block _ (blk_lt HF3.out)]; exact HF3.out
    show _ = _
    rw [q5.block _ (blk_lt h4)]; exact h4
  have R5 : Hid (Row27 ((w4.alloc (.cells Z27 27)).setRow w4.heap.size (bcells I)) w4.heap.size I) := setRow_heap _ _ _ _ _ _ (heap_alloc_new w4 _)
  clear hb q5 b4 K3 HF3
  go_wp2_with (refine wpList_store_row rfl 27 (.tmp 6) (.tmp 14) rfl w4.heap.size (bcells I) rfl rfl 27 Z27 (heap_alloc_new w4 _) II.out ZI.out OI.out ?_)
  generalize hI6 : w4.heap.size = I6 at *
  generalize (w4.alloc (.cells Z27 27)).setRow I6 (bcells I) = w5 at *
  refine wp_region_any (by kernel_rfl) ?_
  change wpAny _ _ _ _ _ _ _ (World.drew _)
  refine' wpAny_take (i := 0) ?h1x0 ?hsx0 ?hfx0 ?hrx0 ?hQx0 (Or.inl ⟨?hwx0, ?hyx0⟩) ?restx0
  case h1x0 => (simp only [List.getElem?_toArray, List.getElem?_cons_zero]; rfl)
  case hsx0 => kernel_rfl
  case hfx0 => kernel_rfl
  case hrx0 => kernel_rfl
  case hQx0 => exact fun _ _ _ h => h
  case hwx0 => rfl
  case hyx0 =>
    intro W
    go_simp
    try with_reducible rfl
  simp only [Act.put, List.setIfInBounds_toArray, List.set_cons_succ, List.set_cons_zero]
  refine' wpAny_take (i := 2) ?h1x2 ?hsx2 ?hfx2 ?hrx2 ?hQx2 (Or.inl ⟨?hwx2, ?hyx2⟩) ?restx2
  case h1x2 => (simp only [List.getElem?_toArray, List.getElem?_cons_succ, List.getElem?_cons_zero]; rfl)
  case hsx2 => kernel_rfl
  case hfx2 => kernel_rfl
  case hrx2 => kernel_rfl
  case hQx2 => exact fun _ _ _ h => h
  case hwx2 => rfl
  case hyx2 =>
    intro W
    go_simp
    try with_reducible rfl
  simp only [Act.put, List.setIfInBounds_toArray, List.set_cons_succ, List.set_cons_zero]
  refine wpAny_ready (rs := [1]) (by kernel_rfl) (by simp) ?_
  refine' AllReady.cons ?hoc1 (fun K hK => ?stc1) AllReady.nil
  case hoc1 => (simp only [List.getElem?_toArray, List.getElem?_cons_succ, List.getElem?_cons_zero]; rfl)
  go_simp
  refine (padc (w.heap.size + 1) (fill k) 92 (by omega) HF64.out HFB.out w5.drew HF5.out).mono ?_
  rintro e w6 ⟨G2, rfl, hrow, hGs, hb⟩
  have b6 : Below w.heap.size w w6 := B5.out.drew.trans (hb.mono B5.out.size)
  have hsp : Sees w6 (.slice (some ⟨G2, 0, none⟩) 64 64) (pad k 92) := sees_arr P92.out B92.out hrow
  have hrI : Row27 w6 I6 I := by
    unfold Row27
    rw [hb.block _ (blk_lt R5.out)]; exact R5.out
  have hsI : Sees w6 (.slice (some ⟨I6, 0, none⟩) 32 32) I := by
    refine ⟨BI.out, .inr (.inr ⟨_, _, _, by rw [LI.out], by intro e; have := LI.out; rw [e] at this; simp at this, by rw [LI.out]; omega, by decide, fun i hi => ?_⟩)⟩
    rw [Nat.zero_add]; exact hrI.cell i hi
  have k6 : w6.heap[w.heap.size]? = some (.cells Z27 27 (0, 0)) := by rw [hb.block _ (blk_lt K5.out)]; exact K5.out
  have hL : SeesL (w6.alloc (.cells #[.slice (some ⟨G2, 0, none⟩) 64 64, .slice (some ⟨I6, 0, none⟩) 32 32] 22)) (.slice (some ⟨w6.heap.size, 0, none⟩) 2 2) [pad k 92, I] := by
    have hq : Below w6.heap.size w6 (w6.alloc (.cells #[.slice (some ⟨G2, 0, none⟩) 64 64, .slice (some ⟨I6, 0, none⟩) 32 32] 22)) := (Below.refl _ _).alloc (Nat.le_refl _) _
    refine .inr ⟨w6.heap.size, 0, 2, rfl, by simp, fun i hi => ?_⟩
    have hi2 : i = 0 ∨ i = 1 := by simp at hi; omega
    rcases hi2 with rfl | rfl
    · exact ⟨_, by rw [cell_of_row _ _ _ _ _ _ (heap_alloc_new w6 _)]; rfl, hsp.below hq⟩
    · exact ⟨_, by rw [cell_of_row _ _ _ _ _ _ (heap_alloc_new w6 _)]; rfl, hsI.below hq⟩
  have b7 : Below w.heap.size w (w6.alloc (.cells #[.slice (some ⟨G2, 0, none⟩) 64 64, .slice (some ⟨I6, 0, none⟩) 32 32] 22)) := b6.alloc b6.size _
  have k7 : (w6.alloc (.cells #[.slice (some ⟨G2, 0, none⟩) 64 64, .slice (some ⟨I6, 0, none⟩) 32 32] 22)).heap[w.heap.size]? = some (.cells Z27 27 (0, 0)) := by rw [Below.heap_alloc _ _ _ (blk_lt k6)]; exact k6
  have HL7 := Lib.hid hL
  have B7 := Lib.hid b7
  have K7 := Lib.hid k7
  clear hrow hGs hb b6 hsp hrI hsI k6 hL b7 k7
  go_wp2_with fail
  try simp only [Act.put, List.setIfInBounds_toArray, List.set_cons_zero, List.set_cons_succ]
  refine wpAny_ready (rs := [3]) (by kernel_rfl) (by simp) ?_
  refine' AllReady.cons ?hoc3 (fun K hK => ?stc3) AllReady.nil
  case hoc3 => (simp only [List.getElem?_toArray, List.getElem?_cons_succ, List.getElem?_cons_zero]; rfl)
  go_simp
  refine hK _ _ ?_
  clear hK K
  try simp only [Act.put, List.setIfInBounds_toArray, List.set_cons_zero, List.set_cons_succ]
  refine wpAny_ready (rs := [4]) (by kernel_rfl) (by simp) ?_
  refine' AllReady.cons ?hoc4 (fun K hK => ?stc4) AllReady.nil
  case hoc4 => (simp only [List.getElem?_toArray, List.getElem?_cons_succ, List.getElem?_cons_zero]; rfl)
  go_simp
  refine (BT2.out _ _ (HGL.out.below B7.out H2.out) HL7.out).mono ?_
  rintro e w8 ⟨rfl, hb⟩
  have B8 : Hid (Below w.heap.size w w8) := B7.out.trans (hb.mono B7.out.size)
  have k8 : w8.heap[w.heap.size]? = some (.cells Z27 27 (0, 0)) := by rw [hb.block _ (blk_lt K7.out)]; exact K7.out
  clear hb K7
  go_wp2_with fail
  try simp only [Act.put, List.setIfInBounds_toArray, List.set_cons_zero, List.set_cons_succ]
  refine wpAny_ready (rs := [5]) (by kernel_rfl) (by simp) ?_
  refine' AllReady.cons ?hoc5 (fun K hK => ?stc5) AllReady.nil
  case hoc5 => (simp only [List.getElem?_toArray, List.getElem?_cons_succ, List.getElem?_cons_zero]; rfl)
  rw [if_pos (by rfl)]
  refine wp_store_row 27 (.tmp 4) (.tmp 19) rfl w.heap.size (bcells M) rfl rfl 27 Z27 k8 IM.out ZM.out OM.out ?_
  refine hK _ _ ?_
  clear hK K
  simp only [Act.put]
  refine wpAny_done (by kernel_rfl) ?_ _
  go_wp2_with fail
  refine bodyPost_ret (v := .agg (bcells M)) (results_cell_row Tryd.results38 _ _ w.heap.size 27 _ (0, 0) _ rfl (setRow_heap _ _ _ _ _ _ k8) Tryd.underlying27 rfl IM.out) rfl ⟨by rw [HM.out], ?_⟩
  exact B8.out.trans (below_row _ _ (Nat.le_refl _))
end Go.Proofs.YtmkaagiabafooaaDoor
