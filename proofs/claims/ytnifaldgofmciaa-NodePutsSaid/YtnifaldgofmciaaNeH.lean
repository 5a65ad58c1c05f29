/-
  The walks of NodeHalves. Condition: the node reads as one.
-/
import Derived.Test.YtnifaldgofmciaaNeD
namespace Go.Proofs.Ytnifaldgofmciaa
open Go.RowKit
theorem half_a {n : NV} (hs : small n) : cutN n (halfN n) 9223372036854775807 = ⟨n.leaf, n.ks.take (halfN n), n.vs.take (halfN n), n.qs.take (halfN n)⟩ := by
  obtain ⟨h1, h2, h3⟩ := hs
  unfold cutN
  rw [List.drop_of_length_le (show n.ks.length ≤ 9223372036854775807 by omega), List.drop_of_length_le (show n.vs.length ≤ 9223372036854775807 by omega), List.drop_of_length_le (show n.qs.length ≤ 9223372036854775807 by omega)]
  simp
theorem half_b (n : NV) : cutN n 0 (halfN n) = ⟨n.leaf, n.ks.drop (halfN n), n.vs.drop (halfN n), n.qs.drop (halfN n)⟩ := by
  unfold cutN
  simp
theorem half_j (n : NV) : joinN ⟨n.leaf, n.ks.take (halfN n), n.vs.take (halfN n), n.qs.take (halfN n)⟩ ⟨n.leaf, n.ks.drop (halfN n), n.vs.drop (halfN n), n.qs.drop (halfN n)⟩ = n := by
  unfold joinN
  simp
theorem great_small {n : NV} (h : greatB n = false) : small n := by
  unfold greatB at h
  simp only [Bool.or_eq_false_iff, decide_eq_false_iff_not] at h
  exact ⟨by omega, by omega, by omega⟩
theorem right_parts {n : NV} (h : rightB n.leaf n.ks n.vs.length n.qs.length = true) : wholeB n = true ∧ 1 ≤ n.ks.length ∧ risesB n.ks = true ∧ (if n.leaf then n.vs.length else n.qs.length) = n.ks.length := by
  unfold rightB at h
  simp only [Bool.and_eq_true, decide_eq_true_eq] at h
  obtain ⟨⟨h1, _, h3, _⟩, h5⟩ := h
  have e3 : (if n.leaf then n.vs.length else n.qs.length) = n.ks.length := by cases hl : n.leaf <;> simp [hl] at h3 ⊢ <;> omega
  refine ⟨decide_eq_true (by rw [e3]; exact Nat.le_refl _), ?_, h5, e3⟩
  cases hl : n.leaf <;> simp [hl] at h1 <;> omega
theorem ND.keys {w : World} {X : Array Value} {n : NV} (h : ND w (.agg X) n) : ∃ x c, X[1]? = some (.slice x n.ks.length c) ∧ KS w (.slice x n.ks.length c) n.ks := by
  obtain ⟨K, V, Q, e, h1, _⟩ := h
  obtain ⟨x, c, rfl⟩ := h1.len
  injection e with e
  exact ⟨x, c, by rw [e]; rfl, h1⟩
theorem half_whole {n : NV} (h : rightB n.leaf n.ks n.vs.length n.qs.length = true) : wholeB ⟨n.leaf, n.ks.take (halfN n), n.vs.take (halfN n), n.qs.take (halfN n)⟩ = true ∧ wholeB ⟨n.leaf, n.ks.drop (halfN n), n.vs.drop (halfN n), n.qs.drop (halfN n)⟩ = true := by
  obtain ⟨_, _, _, h4⟩ := right_parts h
  unfold wholeB
  cases hl : n.leaf with
  | true => rw [hl] at h4; simp at h4 ⊢; omega
  | false => rw [hl] at h4; simp at h4 ⊢; omega
theorem KS.at {w : World} {x : Option Addr} {n c : Nat} {ks : List Int} (h : KS w (.slice x n c) ks) (i : Nat) (hi : i < ks.length) : ∃ b o, x = some ⟨b, o, none⟩ ∧ b < w.heap.size ∧ w.cell? ⟨b, o + i, none⟩ = some (.int .u64 (ks.getD i 0)) := by
  obtain ⟨_, _, x', c', e, h4⟩ := h
  injection e with e1 e2 e3
  subst e1
  exact h4 i hi
def CellF (w : World) (b o : Nat) (v : Value) : Prop := b < w.heap.size ∧ w.cell? ⟨b, o, none⟩ = some v
theorem CellF.below {w w' : World} {b o : Nat} {v : Value} (h : CellF w b o v) (hb : Below w.heap.size w w') : CellF w' b o v := ⟨Nat.lt_of_lt_of_le h.1 hb.size, (hb.cell (p := ⟨b, o, none⟩) h.1).trans h.2⟩
set_option maxRecDepth 100000 in
set_option maxHeartbeats 8000000 in
theorem halves_no (A : Array Value) (n : NV) (w : World) (hv : ND w (.agg A) n) (hA : okA 0 A) (hg : greatB n = true ∨ greatB n = false ∧ rightB n.leaf n.ks n.vs.length n.qs.length = false) : Calls Try.prog 5 #[.agg A] w (AliveP w) := by
  have IA := Lib.hid hA.info
  obtain ⟨W0, hW0⟩ : ∃ W0, W0 = w.alloc (.cells A 26) := ⟨_, rfl⟩
  have hb : Below w.heap.size w W0 := by rw [hW0]; exact (Below.refl _ _).alloc (Nat.le_refl _) _
  have B0 := Lib.hid hb
  have GR : Hid (W0.heap[w.heap.size]? = some (.cells A 26 (0, 0))) := by show _ = _; rw [hW0]; exact heap_alloc_new w _
  have NR := Lib.hid (hv.below hb)
  have HW0 := Lib.hid hW0
  have AL := Lib.hid alive8
  rcases hg with hg | ⟨hg, hr⟩
  · have GT : Hid (∀ v W, ND W v n → Calls Try.prog 7 #[v] W fun e w' => e = .returned (.bool true) ∧ Below W.heap.size W w') := fun v W h => by have := great v n W h; rw [hg] at this; exact this
    clear hW0 hb hv hg hA
    go_enter Try.func5, Try.ntmps5
    go_upto_region 1 with (fail)
    rw [← HW0.out]
    go_wp2_with (refine wpList_load_row rfl 26 (.tmp 1) rfl w.heap.size rfl 26 A (0, 0) _ GR.out Try.underlying26 rfl IA.out ?_)
    refine (GT.out _ _ NR.out).mono ?_
    rintro e w1 ⟨rfl, hb⟩
    have B0 := Lib.hid (B0.out.trans (hb.mono B0.out.size))
    clear hb
    go_wp2_with fail
    refine (AL.out _).mono ?_
    rintro e w7 ⟨rfl, hb⟩
    have B0 := Lib.hid (B0.out.trans (hb.mono B0.out.size))
    clear hb
    go_wp2_with fail
    go_ret
    exact ⟨rfl, B0.out⟩
  · have GT : Hid (∀ v W, ND W v n → Calls Try.prog 7 #[v] W fun e w' => e = .returned (.bool false) ∧ Below W.heap.size W w') := fun v W h => by have := great v n W h; rw [hg] at this; exact this
    have RT : Hid (∀ v W, ND W v n → Calls Try.prog 12 #[v] W fun e w' => e = .returned (.bool false) ∧ Below W.heap.size W w') := fun v W h => by have := rightN v n W h; rw [hr] at this; exact this
    clear hW0 hb hv hg hr hA
    go_enter Try.func5, Try.ntmps5
    go_upto_region 1 with (fail)
    rw [← HW0.out]
    go_wp2_with (refine wpList_load_row rfl 26 (.tmp 1) rfl w.heap.size rfl 26 A (0, 0) _ GR.out Try.underlying26 rfl IA.out ?_)
    refine (GT.out _ _ NR.out).mono ?_
    rintro e w1 ⟨rfl, hb⟩
    have B0 := Lib.hid (B0.out.trans (hb.mono B0.out.size))
    have GR := Lib.hid ((hb.block _ (blk_lt GR.out)).trans GR.out)
    have NR := Lib.hid (NR.out.below hb)
    clear hb
    go_wp2_with (refine wpList_load_met rfl 26 (.tmp 1) rfl w.heap.size rfl 26 A (0, 0) _ GR.out Try.underlying26 ⟨_, rfl⟩ IA.out ?_)
    refine (RT.out _ _ NR.out).mono ?_
    rintro e w2 ⟨rfl, hb⟩
    have B0 := Lib.hid (B0.out.trans (hb.mono B0.out.size))
    clear hb
    go_wp2_with fail
    refine (AL.out _).mono ?_
    rintro e w7 ⟨rfl, hb⟩
    have B0 := Lib.hid (B0.out.trans (hb.mono B0.out.size))
    clear hb
    go_wp2_with fail
    go_ret
    exact ⟨rfl, B0.out⟩
set_option maxRecDepth 100000 in
set_option maxHeartbeats 16000000 in
theorem halves_z (A : Array Value) (n : NV) (w : World) (hv : ND w (.agg A) n) (hA : okA 0 A) (hg : greatB n = false) (hr : rightB n.leaf n.ks n.vs.length n.qs.length = true) (k0 l : Nat) (hk : halfN n = k0 + 1) (hlen : n.ks.length = k0 + 1 + l) (hc : k0 = 0 ∧ l = 0) : Calls Try.prog 5 #[.agg A] w (AliveP w) := by
  obtain ⟨rfl, rfl⟩ := hc
  have hz := z26
  obtain ⟨Z, hZ⟩ : ∃ Z : Array Value, Z = #[.bool false, .slice none 0 0, .slice none 0 0, .slice none 0 0] := ⟨_, rfl⟩
  rw [← hZ] at hz
  have Z4 : Hid (Z.size = 4) := by show _ = _; rw [hZ]; rfl
  clear hZ
  have IA := Lib.hid hA.info
  have hs := great_small hg
  have GT : Hid (∀ v W, ND W v n → Calls Try.prog 7 #[v] W fun e w' => e = .returned (.bool false) ∧ Below W.heap.size W w') := fun v W h => by have := great v n W h; rw [hg] at this; exact this
  have RT : Hid (∀ v W, ND W v n → Calls Try.prog 12 #[v] W fun e w' => e = .returned (.bool true) ∧ Below W.heap.size W w') := fun v W h => by have := rightN v n W h; rw [hr] at this; exact this
  have AL := Lib.hid alive8
  obtain ⟨na, hna⟩ : ∃ na : NV, na = ⟨n.leaf, n.ks.take (halfN n), n.vs.take (halfN n), n.qs.take (halfN n)⟩ := ⟨_, rfl⟩
  obtain ⟨nb, hnb⟩ : ∃ nb : NV, nb = ⟨n.leaf, n.ks.drop (halfN n), n.vs.drop (halfN n), n.qs.drop (halfN n)⟩ := ⟨_, rfl⟩
  have HV : Hid (∀ W, ND W (.agg A) n → Calls Try.prog 20 #[.agg A] W fun e w' => ∃ XA XB, e = .returned (.tuple #[.agg XA, .agg XB]) ∧ ND w' (.agg XA) na ∧ ND w' (.agg XB) nb ∧ okA W.heap.size XA ∧ okA W.heap.size XB ∧ Below W.heap.size W w') := fun W h => by
    have := halve A n W h hA hs (right_parts hr).1
    unfold HalfP at this
    rw [half_a hs, half_b n, ← hna, ← hnb] at this
    exact this
  have JN : Hid (∀ XA XB W, ND W (.agg XA) na → ND W (.agg XB) nb → okA 0 XA → okA 0 XB → Calls Try.prog 21 #[.agg XA, .agg XB] W (NewN W n)) := fun XA XB W a b oa ob => by
    obtain ⟨e1, e2⟩ := half_whole hr
    have s1 : small na := by rw [hna]; exact ⟨Nat.le_trans (List.length_take_le' _ _) hs.1, Nat.le_trans (List.length_take_le' _ _) hs.2.1, Nat.le_trans (List.length_take_le' _ _) hs.2.2⟩
    have s2 : small nb := by rw [hnb]; exact ⟨by show (n.ks.drop _).length ≤ 300; rw [List.length_drop]; have := hs.1; omega, by show (n.vs.drop _).length ≤ 300; rw [List.length_drop]; have := hs.2.1; omega, by show (n.qs.drop _).length ≤ 300; rw [List.length_drop]; have := hs.2.2; omega⟩
    have := join XA XB na nb W a oa s1 (by rw [hna]; exact e1) b ob s2 (by rw [hnb]; exact e2)
    rw [show joinN na nb = n by rw [hna, hnb]; exact half_j n] at this
    exact this
  have SM : Hid (∀ X W, ND W (.agg X) n → ND W (.agg A) n → Calls Try.prog 18 #[.agg X, .agg A] W fun e w' => e = .returned (.bool true) ∧ Below W.heap.size W w') := fun X W h k => by
    have := same _ _ n n W h k
    rw [show sameB n n = true by simp [sameB]] at this
    exact this
  have LK : Hid (na.ks.length = 0 + 1) := by show _ = _; rw [hna]; show (n.ks.take _).length = _; rw [List.length_take]; omega
  have LL : Hid (nb.ks.length = 0) := by show _ = _; rw [hnb]; show (n.ks.drop _).length = _; rw [List.length_drop]; omega
  obtain ⟨W0, hW0⟩ : ∃ W0, W0 = w.alloc (.cells A 26) := ⟨_, rfl⟩
  have hb : Below w.heap.size w W0 := by rw [hW0]; exact (Below.refl _ _).alloc (Nat.le_refl _) _
  have B0 := Lib.hid hb
  have GR : Hid (W0.heap[w.heap.size]? = some (.cells A 26 (0, 0))) := by show _ = _; rw [hW0]; exact heap_alloc_new w _
  have NR := Lib.hid (hv.below hb)
  have HW0 := Lib.hid hW0
  clear hW0 hb hv hA hg hr hs hna hnb hk hlen
  go_enter Try.func5, Try.ntmps5
  go_upto_region 1 with (fail)
  rw [← HW0.out]
  go_wp2_with (refine wpList_load_row rfl 26 (.tmp 1) rfl w.heap.size rfl 26 A (0, 0) _ GR.out Try.underlying26 rfl IA.out ?_)
  refine (GT.out _ _ NR.out).mono ?_
  rintro e w1 ⟨rfl, hb⟩
  have B0 := Lib.hid (B0.out.trans (hb.mono B0.out.size))
  have GR := Lib.hid ((hb.block _ (blk_lt GR.out)).trans GR.out)
  have NR := Lib.hid (NR.out.below hb)
  clear hb
  go_wp2_with (refine wpList_load_met rfl 26 (.tmp 1) rfl w.heap.size rfl 26 A (0, 0) _ GR.out Try.underlying26 ⟨_, rfl⟩ IA.out ?_)
  refine (RT.out _ _ NR.out).mono ?_
  rintro e w2 ⟨rfl, hb⟩
  have B0 := Lib.hid (B0.out.trans (hb.mono B0.out.size))
  have GR := Lib.hid ((hb.block _ (blk_lt GR.out)).trans GR.out)
  have NR := Lib.hid (NR.out.below hb)
  clear hb
  go_wp2_with (refine wpList_load_row rfl 26 (.tmp 1) rfl w.heap.size rfl 26 A (0, 0) _ GR.out Try.underlying26 rfl IA.out ?_)
  refine (HV.out _ NR.out).mono ?_
  rintro e w3 ⟨XA, XB, rfl, ha, hb2, oka, okb, hb⟩
  have B0 := Lib.hid (B0.out.trans (hb.mono B0.out.size))
  have GR := Lib.hid ((hb.block _ (blk_lt GR.out)).trans GR.out)
  have NR := Lib.hid (NR.out.below hb)
  clear hb
  obtain ⟨xa, ca, a1, kA⟩ := ha.keys
  obtain ⟨xb, cb, b1, kB⟩ := hb2.keys
  rw [LK.out] at a1 kA
  rw [LL.out] at b1 kB
  have A1 := Lib.hid a1
  have C1 := Lib.hid b1
  have OKA := Lib.hid (oka.le (Nat.zero_le _))
  have OKB := Lib.hid (okb.le (Nat.zero_le _))
  obtain ⟨W5, hW5⟩ : ∃ W5, W5 = (((w3.alloc (.cells Z 26)).alloc (.cells Z 26)).setRow w3.heap.size XA).setRow (w3.heap.size + 1) XB := ⟨_, rfl⟩
  have b0 : Below w3.heap.size w3 (w3.alloc (.cells Z 26)) := (Below.refl _ _).alloc (Nat.le_refl _) _
  have b2 : Below w3.heap.size w3 ((w3.alloc (.cells Z 26)).alloc (.cells Z 26)) := b0.alloc (by simp) _
  have G3 : Hid (((w3.alloc (.cells Z 26)).alloc (.cells Z 26)).heap[w3.heap.size]? = some (.cells Z 26 (0, 0))) := by show _ = _; rw [Below.heap_alloc _ _ _ (by simp)]; exact heap_alloc_new w3 _
  have G4 : Hid ((((w3.alloc (.cells Z 26)).alloc (.cells Z 26)).setRow w3.heap.size XA).heap[w3.heap.size + 1]? = some (.cells Z 26 (0, 0))) := by
    show _ = _
    rw [setRow_other _ _ _ _ (by omega)]
    have := heap_alloc_new (w3.alloc (.cells Z 26)) (.cells Z 26)
    simpa using this
  have hb : Below w3.heap.size w3 W5 := by rw [hW5]; exact (b2.trans (below_row _ XA (Nat.le_refl _))).trans (below_row _ XB (by omega))
  have HA : Hid (W5.heap[w3.heap.size]? = some (.cells XA 26 (0, 0))) := by
    show _ = _
    rw [hW5, setRow_other _ _ _ _ (by omega)]
    exact setRow_heap _ _ _ XA 26 _ G3.out
  have HB : Hid (W5.heap[w3.heap.size + 1]? = some (.cells XB 26 (0, 0))) := by
    show _ = _
    rw [hW5]
    exact setRow_heap _ _ _ XB 26 _ G4.out
  have B0 := Lib.hid (B0.out.trans (hb.mono B0.out.size))
  have GR := Lib.hid ((hb.block _ (blk_lt GR.out)).trans GR.out)
  have NR := Lib.hid (NR.out.below hb)
  have NA := Lib.hid (ha.below hb)
  have NB := Lib.hid (hb2.below hb)
  have KA := Lib.hid (kA.below hb)
  have KB := Lib.hid (kB.below hb)
  have HW5 := Lib.hid hW5
  have S3 : Hid (Z.size = XA.size) := by show _ = _; rw [Z4.out, OKA.out.four]
  have S4 : Hid (Z.size = XB.size) := by show _ = _; rw [Z4.out, OKB.out.four]
  have I3 := Lib.hid OKA.out.info
  have I4 := Lib.hid OKB.out.info
  have O3 := Lib.hid OKA.out.one
  have O4 := Lib.hid OKB.out.one
  clear hW5 b0 b2 ha hb2 hb oka okb a1 b1 kA kB
  go_upto_region 4 with (first
    | (refine wpList_store_row rfl 26 (.tmp 3) (.tmp 18) rfl w3.heap.size XA rfl rfl 26 Z G3.out I3.out S3.out O3.out ?_)
    | (refine wpList_store_row rfl 26 (.tmp 4) (.tmp 19) rfl (w3.heap.size + 1) XB rfl rfl 26 Z G4.out I4.out S4.out O4.out ?_))
  rw [← HW5.out]
  try simp only [Act.put]
  generalize hga : w3.heap.size = ga at HA HB ⊢
  clear HW5 G3 G4 hga hz
  go_wp2_with fail
  have HA0 := HA
  have HB0 := HB
  refine wp_region_held_drew (S := fun W => Below W5.heap.size W5 W) (by kernel_rfl) ((Below.refl _ _).drew) (fun hS => ?_)
  have hb0 : Below W5.heap.size W5 W5.drew := (Below.refl _ _).drew
  have qGR := (hb0.block _ (blk_lt GR.out)).trans GR.out
  have qNR := NR.out.below hb0
  have qHA := (hb0.block _ (blk_lt HA.out)).trans HA.out
  have qHB := (hb0.block _ (blk_lt HB.out)).trans HB.out
  have qNA := NA.out.below hb0
  have qNB := NB.out.below hb0
  have qB0 := B0.out.trans (hb0.mono B0.out.size)
  clear hb0 GR NR HA HB NA NB B0
  generalize W5.drew = Wps at hS qGR qNR qHA qHB qNA qNB qB0 ⊢
  have GR := Lib.hid qGR
  have NR := Lib.hid qNR
  have HA := Lib.hid qHA
  have HB := Lib.hid qHB
  have NA := Lib.hid qNA
  have NB := Lib.hid qNB
  have B0 := Lib.hid qB0
  clear qGR qNR qHA qHB qNA qNB qB0
  refine' wpAnyH_take (i := 0) ?h1x0p ?hsx0p ?hfx0p ?hrx0p ?hQx0p (Or.inl ⟨?hwx0p, ?hyx0p⟩) hS ?restx0p
  case h1x0p => (simp only [List.getElem?_toArray, List.getElem?_cons_zero]; rfl)
  case hsx0p => kernel_rfl
  case hfx0p => kernel_rfl
  case hrx0p => kernel_rfl
  case hQx0p => exact fun _ _ _ h => h
  case hwx0p => rfl
  case hyx0p =>
    intro W hW
    go_simp
    try with_reducible rfl
  simp only [Act.put, List.setIfInBounds_toArray, List.set_cons_succ, List.set_cons_zero]
  refine' wpAnyH_take (i := 3) ?h1x3p ?hsx3p ?hfx3p ?hrx3p ?hQx3p (Or.inl ⟨?hwx3p, ?hyx3p⟩) hS ?restx3p
  case h1x3p => (simp only [List.getElem?_toArray, List.getElem?_cons_succ, List.getElem?_cons_zero]; rfl)
  case hsx3p => kernel_rfl
  case hfx3p => kernel_rfl
  case hrx3p => kernel_rfl
  case hQx3p => exact fun _ _ _ h => h
  case hwx3p => rfl
  case hyx3p =>
    intro W hW
    go_simp
    try with_reducible rfl
  simp only [Act.put, List.setIfInBounds_toArray, List.set_cons_succ, List.set_cons_zero]
  refine' wpAnyH_take (i := 1) ?h1x1p ?hsx1p ?hfx1p ?hrx1p ?hQx1p (Or.inl ⟨?hwx1p, ?hyx1p⟩) hS ?restx1p
  case h1x1p => (simp only [List.getElem?_toArray, List.getElem?_cons_succ, List.getElem?_cons_zero]; rfl)
  case hsx1p => kernel_rfl
  case hfx1p => kernel_rfl
  case hrx1p => kernel_rfl
  case hQx1p => exact fun _ _ _ h => h
  case hwx1p => rfl
  case hyx1p =>
    intro W hW
    have ck := (hW.cell (p := ⟨ga, 1, none⟩) (blk_lt HA0.out)).trans ((cell_row HA0.out 1).trans A1.out)
    go_simp
    try with_reducible rfl
  simp only [Act.put, List.setIfInBounds_toArray, List.set_cons_succ, List.set_cons_zero]
  refine' wpAnyH_take (i := 4) ?h1x4p ?hsx4p ?hfx4p ?hrx4p ?hQx4p (Or.inl ⟨?hwx4p, ?hyx4p⟩) hS ?restx4p
  case h1x4p => (simp only [List.getElem?_toArray, List.getElem?_cons_succ, List.getElem?_cons_zero]; rfl)
  case hsx4p => kernel_rfl
  case hfx4p => kernel_rfl
  case hrx4p => kernel_rfl
  case hQx4p => exact fun _ _ _ h => h
  case hwx4p => rfl
  case hyx4p =>
    intro W hW
    have ck := (hW.cell (p := ⟨ga + 1, 1, none⟩) (blk_lt HB0.out)).trans ((cell_row HB0.out 1).trans C1.out)
    go_simp
    try with_reducible rfl
  simp only [Act.put, List.setIfInBounds_toArray, List.set_cons_succ, List.set_cons_zero]
  refine' wpAnyH_take (i := 2) ?h1x2p ?hsx2p ?hfx2p ?hrx2p ?hQx2p (Or.inl ⟨?hwx2p, ?hyx2p⟩) hS ?restx2p
  case h1x2p => (simp only [List.getElem?_toArray, List.getElem?_cons_succ, List.getElem?_cons_zero]; rfl)
  case hsx2p => kernel_rfl
  case hfx2p => kernel_rfl
  case hrx2p => kernel_rfl
  case hQx2p => exact fun _ _ _ h => h
  case hwx2p => rfl
  case hyx2p =>
    intro W hW
    go_simp
    try with_reducible rfl
  simp only [Act.put, List.setIfInBounds_toArray, List.set_cons_succ, List.set_cons_zero]
  refine' wpAnyH_take (i := 5) ?h1x5p ?hsx5p ?hfx5p ?hrx5p ?hQx5p (Or.inl ⟨?hwx5p, ?hyx5p⟩) hS ?restx5p
  case h1x5p => (simp only [List.getElem?_toArray, List.getElem?_cons_succ, List.getElem?_cons_zero]; rfl)
  case hsx5p => kernel_rfl
  case hfx5p => kernel_rfl
  case hrx5p => kernel_rfl
  case hQx5p => exact fun _ _ _ h => h
  case hwx5p => rfl
  case hyx5p =>
    intro W hW
    go_simp
    try with_reducible rfl
  simp only [Act.put, List.setIfInBounds_toArray, List.set_cons_succ, List.set_cons_zero]
  refine' wpAnyH_take (i := 6) ?h1x6p ?hsx6p ?hfx6p ?hrx6p ?hQx6p (Or.inl ⟨?hwx6p, ?hyx6p⟩) hS ?restx6p
  case h1x6p => (simp only [List.getElem?_toArray, List.getElem?_cons_succ, List.getElem?_cons_zero]; rfl)
  case hsx6p => kernel_rfl
  case hfx6p => kernel_rfl
  case hrx6p => kernel_rfl
  case hQx6p => exact fun _ _ _ h => h
  case hwx6p => rfl
  case hyx6p =>
    intro W hW
    go_simp
    try with_reducible rfl
  simp only [Act.put, List.setIfInBounds_toArray, List.set_cons_succ, List.set_cons_zero]
  refine' wpAnyH_take (i := 7) ?h1x7p ?hsx7p ?hfx7p ?hrx7p ?hQx7p (Or.inl ⟨?hwx7p, ?hyx7p⟩) hS ?restx7p
  case h1x7p => (simp only [List.getElem?_toArray, List.getElem?_cons_succ, List.getElem?_cons_zero]; rfl)
  case hsx7p => kernel_rfl
  case hfx7p => kernel_rfl
  case hrx7p => kernel_rfl
  case hQx7p => exact fun _ _ _ h => h
  case hwx7p => rfl
  case hyx7p =>
    intro W hW
    go_simp
    try with_reducible rfl
  simp only [Act.put, List.setIfInBounds_toArray, List.set_cons_succ, List.set_cons_zero]
  refine wpAnyH_done (by kernel_rfl) ?_ _
  go_wp2_with fail
  have HA0 := HA
  have HB0 := HB
  refine wp_region_held_drew (S := fun W => Below Wps.heap.size Wps W) (by kernel_rfl) ((Below.refl _ _).drew) (fun hS => ?_)
  have hb0 : Below Wps.heap.size Wps Wps.drew := (Below.refl _ _).drew
  have qGR := (hb0.block _ (blk_lt GR.out)).trans GR.out
  have qNR := NR.out.below hb0
  have qHA := (hb0.block _ (blk_lt HA.out)).trans HA.out
  have qHB := (hb0.block _ (blk_lt HB.out)).trans HB.out
  have qNA := NA.out.below hb0
  have qNB := NB.out.below hb0
  have qB0 := B0.out.trans (hb0.mono B0.out.size)
  clear hb0 GR NR HA HB NA NB B0
  generalize Wps.drew = Wqs at hS qGR qNR qHA qHB qNA qNB qB0 ⊢
  have GR := Lib.hid qGR
  have NR := Lib.hid qNR
  have HA := Lib.hid qHA
  have HB := Lib.hid qHB
  have NA := Lib.hid qNA
  have NB := Lib.hid qNB
  have B0 := Lib.hid qB0
  clear qGR qNR qHA qHB qNA qNB qB0
  refine' wpAnyH_take (i := 0) ?h1x0q ?hsx0q ?hfx0q ?hrx0q ?hQx0q (Or.inl ⟨?hwx0q, ?hyx0q⟩) hS ?restx0q
  case h1x0q => (simp only [List.getElem?_toArray, List.getElem?_cons_zero]; rfl)
  case hsx0q => kernel_rfl
  case hfx0q => kernel_rfl
  case hrx0q => kernel_rfl
  case hQx0q => exact fun _ _ _ h => h
  case hwx0q => rfl
  case hyx0q =>
    intro W hW
    go_simp
    try with_reducible rfl
  simp only [Act.put, List.setIfInBounds_toArray, List.set_cons_succ, List.set_cons_zero]
  refine' wpAnyH_take (i := 1) ?h1x1q ?hsx1q ?hfx1q ?hrx1q ?hQx1q (Or.inl ⟨?hwx1q, ?hyx1q⟩) hS ?restx1q
  case h1x1q => (simp only [List.getElem?_toArray, List.getElem?_cons_succ, List.getElem?_cons_zero]; rfl)
  case hsx1q => kernel_rfl
  case hfx1q => kernel_rfl
  case hrx1q => kernel_rfl
  case hQx1q => exact fun _ _ _ h => h
  case hwx1q => rfl
  case hyx1q =>
    intro W hW
    go_simp
    try with_reducible rfl
  simp only [Act.put, List.setIfInBounds_toArray, List.set_cons_succ, List.set_cons_zero]
  refine' wpAnyH_take (i := 2) ?h1x2q ?hsx2q ?hfx2q ?hrx2q ?hQx2q (Or.inl ⟨?hwx2q, ?hyx2q⟩) hS ?restx2q
  case h1x2q => (simp only [List.getElem?_toArray, List.getElem?_cons_succ, List.getElem?_cons_zero]; rfl)
  case hsx2q => kernel_rfl
  case hfx2q => kernel_rfl
  case hrx2q => kernel_rfl
  case hQx2q => exact fun _ _ _ h => h
  case hwx2q => rfl
  case hyx2q =>
    intro W hW
    go_simp
    try with_reducible rfl
  simp only [Act.put, List.setIfInBounds_toArray, List.set_cons_succ, List.set_cons_zero]
  refine' wpAnyH_take (i := 3) ?h1x3q ?hsx3q ?hfx3q ?hrx3q ?hQx3q (Or.inr ⟨?hwx3q, rfl⟩) hS ?restx3q
  case h1x3q => (simp only [List.getElem?_toArray, List.getElem?_cons_succ, List.getElem?_cons_zero]; rfl)
  case hsx3q => kernel_rfl
  case hfx3q => kernel_rfl
  case hrx3q => kernel_rfl
  case hQx3q => exact fun _ _ _ h => h
  case hwx3q => rfl
  simp only [Act.put, List.setIfInBounds_toArray, List.set_cons_succ, List.set_cons_zero]
  refine' wpAnyH_take (i := 4) ?h1x4q ?hsx4q ?hfx4q ?hrx4q ?hQx4q (Or.inr ⟨?hwx4q, rfl⟩) hS ?restx4q
  case h1x4q => (simp only [List.getElem?_toArray, List.getElem?_cons_succ, List.getElem?_cons_zero]; rfl)
  case hsx4q => kernel_rfl
  case hfx4q => kernel_rfl
  case hrx4q => kernel_rfl
  case hQx4q => exact fun _ _ _ h => h
  case hwx4q => rfl
  simp only [Act.put, List.setIfInBounds_toArray, List.set_cons_succ, List.set_cons_zero]
  refine' wpAnyH_take (i := 5) ?h1x5q ?hsx5q ?hfx5q ?hrx5q ?hQx5q (Or.inr ⟨?hwx5q, rfl⟩) hS ?restx5q
  case h1x5q => (simp only [List.getElem?_toArray, List.getElem?_cons_succ, List.getElem?_cons_zero]; rfl)
  case hsx5q => kernel_rfl
  case hfx5q => kernel_rfl
  case hrx5q => kernel_rfl
  case hQx5q => exact fun _ _ _ h => h
  case hwx5q => rfl
  simp only [Act.put, List.setIfInBounds_toArray, List.set_cons_succ, List.set_cons_zero]
  refine' wpAnyH_take (i := 6) ?h1x6q ?hsx6q ?hfx6q ?hrx6q ?hQx6q (Or.inr ⟨?hwx6q, rfl⟩) hS ?restx6q
  case h1x6q => (simp only [List.getElem?_toArray, List.getElem?_cons_succ, List.getElem?_cons_zero]; rfl)
  case hsx6q => kernel_rfl
  case hfx6q => kernel_rfl
  case hrx6q => kernel_rfl
  case hQx6q => exact fun _ _ _ h => h
  case hwx6q => rfl
  simp only [Act.put, List.setIfInBounds_toArray, List.set_cons_succ, List.set_cons_zero]
  refine' wpAnyH_take (i := 7) ?h1x7q ?hsx7q ?hfx7q ?hrx7q ?hQx7q (Or.inr ⟨?hwx7q, rfl⟩) hS ?restx7q
  case h1x7q => (simp only [List.getElem?_toArray, List.getElem?_cons_succ, List.getElem?_cons_zero]; rfl)
  case hsx7q => kernel_rfl
  case hfx7q => kernel_rfl
  case hrx7q => kernel_rfl
  case hQx7q => exact fun _ _ _ h => h
  case hwx7q => rfl
  simp only [Act.put, List.setIfInBounds_toArray, List.set_cons_succ, List.set_cons_zero]
  refine' wpAnyH_take (i := 8) ?h1x8q ?hsx8q ?hfx8q ?hrx8q ?hQx8q (Or.inr ⟨?hwx8q, rfl⟩) hS ?restx8q
  case h1x8q => (simp only [List.getElem?_toArray, List.getElem?_cons_succ, List.getElem?_cons_zero]; rfl)
  case hsx8q => kernel_rfl
  case hfx8q => kernel_rfl
  case hrx8q => kernel_rfl
  case hQx8q => exact fun _ _ _ h => h
  case hwx8q => rfl
  simp only [Act.put, List.setIfInBounds_toArray, List.set_cons_succ, List.set_cons_zero]
  refine' wpAnyH_take (i := 9) ?h1x9q ?hsx9q ?hfx9q ?hrx9q ?hQx9q (Or.inr ⟨?hwx9q, rfl⟩) hS ?restx9q
  case h1x9q => (simp only [List.getElem?_toArray, List.getElem?_cons_succ, List.getElem?_cons_zero]; rfl)
  case hsx9q => kernel_rfl
  case hfx9q => kernel_rfl
  case hrx9q => kernel_rfl
  case hQx9q => exact fun _ _ _ h => h
  case hwx9q => rfl
  simp only [Act.put, List.setIfInBounds_toArray, List.set_cons_succ, List.set_cons_zero]
  refine' wpAnyH_take (i := 10) ?h1x10q ?hsx10q ?hfx10q ?hrx10q ?hQx10q (Or.inr ⟨?hwx10q, rfl⟩) hS ?restx10q
  case h1x10q => (simp only [List.getElem?_toArray, List.getElem?_cons_succ, List.getElem?_cons_zero]; rfl)
  case hsx10q => kernel_rfl
  case hfx10q => kernel_rfl
  case hrx10q => kernel_rfl
  case hQx10q => exact fun _ _ _ h => h
  case hwx10q => rfl
  simp only [Act.put, List.setIfInBounds_toArray, List.set_cons_succ, List.set_cons_zero]
  refine' wpAnyH_take (i := 11) ?h1x11q ?hsx11q ?hfx11q ?hrx11q ?hQx11q (Or.inr ⟨?hwx11q, rfl⟩) hS ?restx11q
  case h1x11q => (simp only [List.getElem?_toArray, List.getElem?_cons_succ, List.getElem?_cons_zero]; rfl)
  case hsx11q => kernel_rfl
  case hfx11q => kernel_rfl
  case hrx11q => kernel_rfl
  case hQx11q => exact fun _ _ _ h => h
  case hwx11q => rfl
  simp only [Act.put, List.setIfInBounds_toArray, List.set_cons_succ, List.set_cons_zero]
  refine' wpAnyH_take (i := 12) ?h1x12q ?hsx12q ?hfx12q ?hrx12q ?hQx12q (Or.inr ⟨?hwx12q, rfl⟩) hS ?restx12q
  case h1x12q => (simp only [List.getElem?_toArray, List.getElem?_cons_succ, List.getElem?_cons_zero]; rfl)
  case hsx12q => kernel_rfl
  case hfx12q => kernel_rfl
  case hrx12q => kernel_rfl
  case hQx12q => exact fun _ _ _ h => h
  case hwx12q => rfl
  simp only [Act.put, List.setIfInBounds_toArray, List.set_cons_succ, List.set_cons_zero]
  refine' wpAnyH_take (i := 13) ?h1x13q ?hsx13q ?hfx13q ?hrx13q ?hQx13q (Or.inr ⟨?hwx13q, rfl⟩) hS ?restx13q
  case h1x13q => (simp only [List.getElem?_toArray, List.getElem?_cons_succ, List.getElem?_cons_zero]; rfl)
  case hsx13q => kernel_rfl
  case hfx13q => kernel_rfl
  case hrx13q => kernel_rfl
  case hQx13q => exact fun _ _ _ h => h
  case hwx13q => rfl
  simp only [Act.put, List.setIfInBounds_toArray, List.set_cons_succ, List.set_cons_zero]
  refine' wpAnyH_take (i := 14) ?h1x14q ?hsx14q ?hfx14q ?hrx14q ?hQx14q (Or.inr ⟨?hwx14q, rfl⟩) hS ?restx14q
  case h1x14q => (simp only [List.getElem?_toArray, List.getElem?_cons_succ, List.getElem?_cons_zero]; rfl)
  case hsx14q => kernel_rfl
  case hfx14q => kernel_rfl
  case hrx14q => kernel_rfl
  case hQx14q => exact fun _ _ _ h => h
  case hwx14q => rfl
  simp only [Act.put, List.setIfInBounds_toArray, List.set_cons_succ, List.set_cons_zero]
  refine' wpAnyH_take (i := 15) ?h1x15q ?hsx15q ?hfx15q ?hrx15q ?hQx15q (Or.inr ⟨?hwx15q, rfl⟩) hS ?restx15q
  case h1x15q => (simp only [List.getElem?_toArray, List.getElem?_cons_succ, List.getElem?_cons_zero]; rfl)
  case hsx15q => kernel_rfl
  case hfx15q => kernel_rfl
  case hrx15q => kernel_rfl
  case hQx15q => exact fun _ _ _ h => h
  case hwx15q => rfl
  simp only [Act.put, List.setIfInBounds_toArray, List.set_cons_succ, List.set_cons_zero]
  refine' wpAnyH_take (i := 16) ?h1x16q ?hsx16q ?hfx16q ?hrx16q ?hQx16q (Or.inr ⟨?hwx16q, rfl⟩) hS ?restx16q
  case h1x16q => (simp only [List.getElem?_toArray, List.getElem?_cons_succ, List.getElem?_cons_zero]; rfl)
  case hsx16q => kernel_rfl
  case hfx16q => kernel_rfl
  case hrx16q => kernel_rfl
  case hQx16q => exact fun _ _ _ h => h
  case hwx16q => rfl
  simp only [Act.put, List.setIfInBounds_toArray, List.set_cons_succ, List.set_cons_zero]
  refine' wpAnyH_take (i := 17) ?h1x17q ?hsx17q ?hfx17q ?hrx17q ?hQx17q (Or.inr ⟨?hwx17q, rfl⟩) hS ?restx17q
  case h1x17q => (simp only [List.getElem?_toArray, List.getElem?_cons_succ, List.getElem?_cons_zero]; rfl)
  case hsx17q => kernel_rfl
  case hfx17q => kernel_rfl
  case hrx17q => kernel_rfl
  case hQx17q => exact fun _ _ _ h => h
  case hwx17q => rfl
  simp only [Act.put, List.setIfInBounds_toArray, List.set_cons_succ, List.set_cons_zero]
  refine' wpAnyH_take (i := 18) ?h1x18q ?hsx18q ?hfx18q ?hrx18q ?hQx18q (Or.inl ⟨?hwx18q, ?hyx18q⟩) hS ?restx18q
  case h1x18q => (simp only [List.getElem?_toArray, List.getElem?_cons_succ, List.getElem?_cons_zero]; rfl)
  case hsx18q => kernel_rfl
  case hfx18q => kernel_rfl
  case hrx18q => kernel_rfl
  case hQx18q => exact fun _ _ _ h => h
  case hwx18q => rfl
  case hyx18q =>
    intro W hW
    go_simp
    try with_reducible rfl
  simp only [Act.put, List.setIfInBounds_toArray, List.set_cons_succ, List.set_cons_zero]
  refine wpAnyH_done (by kernel_rfl) ?_ _
  go_wp2_with fail
  refine wp_region_held_drew (S := fun W => Below Wqs.heap.size Wqs W ∧ W.heap[w.heap.size]? = some (.cells A 26 (0, 0)) ∧ W.heap[ga]? = some (.cells XA 26 (0, 0)) ∧ W.heap[(ga + 1)]? = some (.cells XB 26 (0, 0))) (by kernel_rfl) (⟨(Below.refl _ _).drew, GR.out, HA.out, HB.out⟩) (fun hS => ?_)
  have hb0 : Below Wqs.heap.size Wqs Wqs.drew := (Below.refl _ _).drew
  have qGR := (hb0.block _ (blk_lt GR.out)).trans GR.out
  have qNR := NR.out.below hb0
  have qHA := (hb0.block _ (blk_lt HA.out)).trans HA.out
  have qHB := (hb0.block _ (blk_lt HB.out)).trans HB.out
  have qNA := NA.out.below hb0
  have qNB := NB.out.below hb0
  have qB0 := B0.out.trans (hb0.mono B0.out.size)
  clear hb0 GR NR HA HB NA NB B0
  generalize Wqs.drew = Wus at hS qGR qNR qHA qHB qNA qNB qB0 ⊢
  have GR := Lib.hid qGR
  have NR := Lib.hid qNR
  have HA := Lib.hid qHA
  have HB := Lib.hid qHB
  have NA := Lib.hid qNA
  have NB := Lib.hid qNB
  have B0 := Lib.hid qB0
  clear qGR qNR qHA qHB qNA qNB qB0
  refine wpAnyH_ready (rs := [0]) (by kernel_rfl) (by simp) ?_
  refine' (AllReadyH.cons ?hoc0u (fun K hK => ?stc0u) AllReadyH.nil)
  case hoc0u => (simp only [List.getElem?_toArray, List.getElem?_cons_zero]; rfl)
  go_simp
  refine (AL.out Wus).mono ?_
  rintro e Wux0 ⟨rfl, hb⟩
  have GR := Lib.hid ((hb.block _ (blk_lt GR.out)).trans GR.out)
  have NR := Lib.hid (NR.out.below hb)
  have HA := Lib.hid ((hb.block _ (blk_lt HA.out)).trans HA.out)
  have HB := Lib.hid ((hb.block _ (blk_lt HB.out)).trans HB.out)
  have NA := Lib.hid (NA.out.below hb)
  have NB := Lib.hid (NB.out.below hb)
  have B0 := Lib.hid (B0.out.trans (hb.mono B0.out.size))
  go_wp2_with fail
  refine hK.out _ _ (⟨hS.1.trans (hb.mono hS.1.size), (hb.block _ (blk_lt hS.2.1)).trans hS.2.1, (hb.block _ (blk_lt hS.2.2.1)).trans hS.2.2.1, (hb.block _ (blk_lt hS.2.2.2)).trans hS.2.2.2⟩) (fun hHeld => ?_)
  clear hK K
  try simp only [Act.put, List.setIfInBounds_toArray, List.set_cons_succ, List.set_cons_zero]
  clear hS
  have hS := hHeld
  clear hHeld
  clear hb
  refine' wpAnyH_take (i := 1) ?h1x1ux0 ?hsx1ux0 ?hfx1ux0 ?hrx1ux0 ?hQx1ux0 (Or.inl ⟨?hwx1ux0, ?hyx1ux0⟩) hS ?restx1ux0
  case h1x1ux0 => (simp only [List.getElem?_toArray, List.getElem?_cons_succ, List.getElem?_cons_zero]; rfl)
  case hsx1ux0 => kernel_rfl
  case hfx1ux0 => kernel_rfl
  case hrx1ux0 => kernel_rfl
  case hQx1ux0 => exact fun _ _ _ h => h
  case hwx1ux0 => rfl
  case hyx1ux0 =>
    intro W hW
    go_simp
    try with_reducible rfl
  simp only [Act.put, List.setIfInBounds_toArray, List.set_cons_succ, List.set_cons_zero]
  refine' wpAnyH_take (i := 2) ?h1x2ux0 ?hsx2ux0 ?hfx2ux0 ?hrx2ux0 ?hQx2ux0 (yieldsIf_load_at ?hwx2ux0 26 (.tmp 3) ?hopx2ux0 ga 0 rfl XA _ (fun W hW => range_row hW.2.2.1) Try.underlying26 rfl ?hix2ux0) hS ?restx2ux0
  case h1x2ux0 => (simp only [List.getElem?_toArray, List.getElem?_cons_succ, List.getElem?_cons_zero]; rfl)
  case hopx2ux0 => rfl
  case hsx2ux0 => kernel_rfl
  case hfx2ux0 => kernel_rfl
  case hrx2ux0 => kernel_rfl
  case hQx2ux0 => exact fun _ _ _ h => h
  case hwx2ux0 => rfl
  case hix2ux0 => exact I3.out
  simp only [Act.put, List.setIfInBounds_toArray, List.set_cons_succ, List.set_cons_zero]
  refine' wpAnyH_take (i := 3) ?h1x3ux0 ?hsx3ux0 ?hfx3ux0 ?hrx3ux0 ?hQx3ux0 (yieldsIf_load_at ?hwx3ux0 26 (.tmp 4) ?hopx3ux0 (ga + 1) 0 rfl XB _ (fun W hW => range_row hW.2.2.2) Try.underlying26 rfl ?hix3ux0) hS ?restx3ux0
  case h1x3ux0 => (simp only [List.getElem?_toArray, List.getElem?_cons_succ, List.getElem?_cons_zero]; rfl)
  case hopx3ux0 => rfl
  case hsx3ux0 => kernel_rfl
  case hfx3ux0 => kernel_rfl
  case hrx3ux0 => kernel_rfl
  case hQx3ux0 => exact fun _ _ _ h => h
  case hwx3ux0 => rfl
  case hix3ux0 => exact I4.out
  simp only [Act.put, List.setIfInBounds_toArray, List.set_cons_succ, List.set_cons_zero]
  refine' wpAnyH_take (i := 5) ?h1x5ux0 ?hsx5ux0 ?hfx5ux0 ?hrx5ux0 ?hQx5ux0 (yieldsIf_load_at ?hwx5ux0 26 (.tmp 1) ?hopx5ux0 w.heap.size 0 rfl A _ (fun W hW => range_row hW.2.1) Try.underlying26 rfl ?hix5ux0) hS ?restx5ux0
  case h1x5ux0 => (simp only [List.getElem?_toArray, List.getElem?_cons_succ, List.getElem?_cons_zero]; rfl)
  case hopx5ux0 => rfl
  case hsx5ux0 => kernel_rfl
  case hfx5ux0 => kernel_rfl
  case hrx5ux0 => kernel_rfl
  case hQx5ux0 => exact fun _ _ _ h => h
  case hwx5ux0 => rfl
  case hix5ux0 => exact IA.out
  simp only [Act.put, List.setIfInBounds_toArray, List.set_cons_succ, List.set_cons_zero]
  refine wpAnyH_ready (rs := [4]) (by kernel_rfl) (by simp) ?_
  refine' (AllReadyH.cons ?hoc4ux0 (fun K hK => ?stc4ux0) AllReadyH.nil)
  case hoc4ux0 => (simp only [List.getElem?_toArray, List.getElem?_cons_succ, List.getElem?_cons_zero]; rfl)
  go_simp
  refine (JN.out XA XB Wux0 NA.out NB.out OKA.out OKB.out).mono ?_
  rintro e Wux0x4 ⟨XJ, rfl, hn, hok, hb⟩
  have GR := Lib.hid ((hb.block _ (blk_lt GR.out)).trans GR.out)
  have NR := Lib.hid (NR.out.below hb)
  have HA := Lib.hid ((hb.block _ (blk_lt HA.out)).trans HA.out)
  have HB := Lib.hid ((hb.block _ (blk_lt HB.out)).trans HB.out)
  have NA := Lib.hid (NA.out.below hb)
  have NB := Lib.hid (NB.out.below hb)
  have B0 := Lib.hid (B0.out.trans (hb.mono B0.out.size))
  have NJ := Lib.hid hn
  clear hn hok
  go_wp2_with fail
  refine hK.out _ _ (⟨hS.1.trans (hb.mono hS.1.size), (hb.block _ (blk_lt hS.2.1)).trans hS.2.1, (hb.block _ (blk_lt hS.2.2.1)).trans hS.2.2.1, (hb.block _ (blk_lt hS.2.2.2)).trans hS.2.2.2⟩) (fun hHeld => ?_)
  clear hK K
  try simp only [Act.put, List.setIfInBounds_toArray, List.set_cons_succ, List.set_cons_zero]
  clear hS
  have hS := hHeld
  clear hHeld
  clear hb
  refine wpAnyH_ready (rs := [6]) (by kernel_rfl) (by simp) ?_
  refine' (AllReadyH.cons ?hoc6ux0x4 (fun K hK => ?stc6ux0x4) AllReadyH.nil)
  case hoc6ux0x4 => (simp only [List.getElem?_toArray, List.getElem?_cons_succ, List.getElem?_cons_zero]; rfl)
  go_simp
  refine (SM.out XJ Wux0x4 NJ.out NR.out).mono ?_
  rintro e Wux0x4x6 ⟨rfl, hb⟩
  have GR := Lib.hid ((hb.block _ (blk_lt GR.out)).trans GR.out)
  have NR := Lib.hid (NR.out.below hb)
  have HA := Lib.hid ((hb.block _ (blk_lt HA.out)).trans HA.out)
  have HB := Lib.hid ((hb.block _ (blk_lt HB.out)).trans HB.out)
  have NA := Lib.hid (NA.out.below hb)
  have NB := Lib.hid (NB.out.below hb)
  have B0 := Lib.hid (B0.out.trans (hb.mono B0.out.size))
  have NJ := Lib.hid (NJ.out.below hb)
  go_wp2_with fail
  refine hK.out _ _ (⟨hS.1.trans (hb.mono hS.1.size), (hb.block _ (blk_lt hS.2.1)).trans hS.2.1, (hb.block _ (blk_lt hS.2.2.1)).trans hS.2.2.1, (hb.block _ (blk_lt hS.2.2.2)).trans hS.2.2.2⟩) (fun hHeld => ?_)
  clear hK K
  try simp only [Act.put, List.setIfInBounds_toArray, List.set_cons_succ, List.set_cons_zero]
  clear hS
  have hS := hHeld
  clear hHeld
  clear hb
  refine' wpAnyH_take (i := 7) ?h1x7ux0x4x6 ?hsx7ux0x4x6 ?hfx7ux0x4x6 ?hrx7ux0x4x6 ?hQx7ux0x4x6 (Or.inl ⟨?hwx7ux0x4x6, ?hyx7ux0x4x6⟩) hS ?restx7ux0x4x6
  case h1x7ux0x4x6 => (simp only [List.getElem?_toArray, List.getElem?_cons_succ, List.getElem?_cons_zero]; rfl)
  case hsx7ux0x4x6 => kernel_rfl
  case hfx7ux0x4x6 => kernel_rfl
  case hrx7ux0x4x6 => kernel_rfl
  case hQx7ux0x4x6 => exact fun _ _ _ h => h
  case hwx7ux0x4x6 => rfl
  case hyx7ux0x4x6 =>
    intro W hW
    go_simp
    try with_reducible rfl
  simp only [Act.put, List.setIfInBounds_toArray, List.set_cons_succ, List.set_cons_zero]
  refine' wpAnyH_take (i := 8) ?h1x8ux0x4x6 ?hsx8ux0x4x6 ?hfx8ux0x4x6 ?hrx8ux0x4x6 ?hQx8ux0x4x6 (Or.inl ⟨?hwx8ux0x4x6, ?hyx8ux0x4x6⟩) hS ?restx8ux0x4x6
  case h1x8ux0x4x6 => (simp only [List.getElem?_toArray, List.getElem?_cons_succ, List.getElem?_cons_zero]; rfl)
  case hsx8ux0x4x6 => kernel_rfl
  case hfx8ux0x4x6 => kernel_rfl
  case hrx8ux0x4x6 => kernel_rfl
  case hQx8ux0x4x6 => exact fun _ _ _ h => h
  case hwx8ux0x4x6 => rfl
  case hyx8ux0x4x6 =>
    intro W hW
    go_simp
    try with_reducible rfl
  simp only [Act.put, List.setIfInBounds_toArray, List.set_cons_succ, List.set_cons_zero]
  refine' wpAnyH_take (i := 9) ?h1x9ux0x4x6 ?hsx9ux0x4x6 ?hfx9ux0x4x6 ?hrx9ux0x4x6 ?hQx9ux0x4x6 (Or.inl ⟨?hwx9ux0x4x6, ?hyx9ux0x4x6⟩) hS ?restx9ux0x4x6
  case h1x9ux0x4x6 => (simp only [List.getElem?_toArray, List.getElem?_cons_succ, List.getElem?_cons_zero]; rfl)
  case hsx9ux0x4x6 => kernel_rfl
  case hfx9ux0x4x6 => kernel_rfl
  case hrx9ux0x4x6 => kernel_rfl
  case hQx9ux0x4x6 => exact fun _ _ _ h => h
  case hwx9ux0x4x6 => rfl
  case hyx9ux0x4x6 =>
    intro W hW
    go_simp
    try with_reducible rfl
  simp only [Act.put, List.setIfInBounds_toArray, List.set_cons_succ, List.set_cons_zero]
  refine' wpAnyH_take (i := 10) ?h1x10ux0x4x6 ?hsx10ux0x4x6 ?hfx10ux0x4x6 ?hrx10ux0x4x6 ?hQx10ux0x4x6 (Or.inl ⟨?hwx10ux0x4x6, ?hyx10ux0x4x6⟩) hS ?restx10ux0x4x6
  case h1x10ux0x4x6 => (simp only [List.getElem?_toArray, List.getElem?_cons_succ, List.getElem?_cons_zero]; rfl)
  case hsx10ux0x4x6 => kernel_rfl
  case hfx10ux0x4x6 => kernel_rfl
  case hrx10ux0x4x6 => kernel_rfl
  case hQx10ux0x4x6 => exact fun _ _ _ h => h
  case hwx10ux0x4x6 => rfl
  case hyx10ux0x4x6 =>
    intro W hW
    go_simp
    try with_reducible rfl
  simp only [Act.put, List.setIfInBounds_toArray, List.set_cons_succ, List.set_cons_zero]
  refine' wpAnyH_take (i := 11) ?h1x11ux0x4x6 ?hsx11ux0x4x6 ?hfx11ux0x4x6 ?hrx11ux0x4x6 ?hQx11ux0x4x6 (Or.inl ⟨?hwx11ux0x4x6, ?hyx11ux0x4x6⟩) hS ?restx11ux0x4x6
  case h1x11ux0x4x6 => (simp only [List.getElem?_toArray, List.getElem?_cons_succ, List.getElem?_cons_zero]; rfl)
  case hsx11ux0x4x6 => kernel_rfl
  case hfx11ux0x4x6 => kernel_rfl
  case hrx11ux0x4x6 => kernel_rfl
  case hQx11ux0x4x6 => exact fun _ _ _ h => h
  case hwx11ux0x4x6 => rfl
  case hyx11ux0x4x6 =>
    intro W hW
    go_simp
    try with_reducible rfl
  simp only [Act.put, List.setIfInBounds_toArray, List.set_cons_succ, List.set_cons_zero]
  refine' wpAnyH_take (i := 12) ?h1x12ux0x4x6 ?hsx12ux0x4x6 ?hfx12ux0x4x6 ?hrx12ux0x4x6 ?hQx12ux0x4x6 (Or.inl ⟨?hwx12ux0x4x6, ?hyx12ux0x4x6⟩) hS ?restx12ux0x4x6
  case h1x12ux0x4x6 => (simp only [List.getElem?_toArray, List.getElem?_cons_succ, List.getElem?_cons_zero]; rfl)
  case hsx12ux0x4x6 => kernel_rfl
  case hfx12ux0x4x6 => kernel_rfl
  case hrx12ux0x4x6 => kernel_rfl
  case hQx12ux0x4x6 => exact fun _ _ _ h => h
  case hwx12ux0x4x6 => rfl
  case hyx12ux0x4x6 =>
    intro W hW
    go_simp
    try with_reducible rfl
  simp only [Act.put, List.setIfInBounds_toArray, List.set_cons_succ, List.set_cons_zero]
  refine' wpAnyH_take (i := 13) ?h1x13ux0x4x6 ?hsx13ux0x4x6 ?hfx13ux0x4x6 ?hrx13ux0x4x6 ?hQx13ux0x4x6 (Or.inl ⟨?hwx13ux0x4x6, ?hyx13ux0x4x6⟩) hS ?restx13ux0x4x6
  case h1x13ux0x4x6 => (simp only [List.getElem?_toArray, List.getElem?_cons_succ, List.getElem?_cons_zero]; rfl)
  case hsx13ux0x4x6 => kernel_rfl
  case hfx13ux0x4x6 => kernel_rfl
  case hrx13ux0x4x6 => kernel_rfl
  case hQx13ux0x4x6 => exact fun _ _ _ h => h
  case hwx13ux0x4x6 => rfl
  case hyx13ux0x4x6 =>
    intro W hW
    go_simp
    try with_reducible rfl
  simp only [Act.put, List.setIfInBounds_toArray, List.set_cons_succ, List.set_cons_zero]
  refine' wpAnyH_take (i := 14) ?h1x14ux0x4x6 ?hsx14ux0x4x6 ?hfx14ux0x4x6 ?hrx14ux0x4x6 ?hQx14ux0x4x6 (Or.inl ⟨?hwx14ux0x4x6, ?hyx14ux0x4x6⟩) hS ?restx14ux0x4x6
  case h1x14ux0x4x6 => (simp only [List.getElem?_toArray, List.getElem?_cons_succ, List.getElem?_cons_zero]; rfl)
  case hsx14ux0x4x6 => kernel_rfl
  case hfx14ux0x4x6 => kernel_rfl
  case hrx14ux0x4x6 => kernel_rfl
  case hQx14ux0x4x6 => exact fun _ _ _ h => h
  case hwx14ux0x4x6 => rfl
  case hyx14ux0x4x6 =>
    intro W hW
    go_simp
    try with_reducible rfl
  simp only [Act.put, List.setIfInBounds_toArray, List.set_cons_succ, List.set_cons_zero]
  refine' wpAnyH_take (i := 15) ?h1x15ux0x4x6 ?hsx15ux0x4x6 ?hfx15ux0x4x6 ?hrx15ux0x4x6 ?hQx15ux0x4x6 (Or.inl ⟨?hwx15ux0x4x6, ?hyx15ux0x4x6⟩) hS ?restx15ux0x4x6
  case h1x15ux0x4x6 => (simp only [List.getElem?_toArray, List.getElem?_cons_succ, List.getElem?_cons_zero]; rfl)
  case hsx15ux0x4x6 => kernel_rfl
  case hfx15ux0x4x6 => kernel_rfl
  case hrx15ux0x4x6 => kernel_rfl
  case hQx15ux0x4x6 => exact fun _ _ _ h => h
  case hwx15ux0x4x6 => rfl
  case hyx15ux0x4x6 =>
    intro W hW
    go_simp
    try with_reducible rfl
  simp only [Act.put, List.setIfInBounds_toArray, List.set_cons_succ, List.set_cons_zero]
  refine' wpAnyH_take (i := 16) ?h1x16ux0x4x6 ?hsx16ux0x4x6 ?hfx16ux0x4x6 ?hrx16ux0x4x6 ?hQx16ux0x4x6 (Or.inl ⟨?hwx16ux0x4x6, ?hyx16ux0x4x6⟩) hS ?restx16ux0x4x6
  case h1x16ux0x4x6 => (simp only [List.getElem?_toArray, List.getElem?_cons_succ, List.getElem?_cons_zero]; rfl)
  case hsx16ux0x4x6 => kernel_rfl
  case hfx16ux0x4x6 => kernel_rfl
  case hrx16ux0x4x6 => kernel_rfl
  case hQx16ux0x4x6 => exact fun _ _ _ h => h
  case hwx16ux0x4x6 => rfl
  case hyx16ux0x4x6 =>
    intro W hW
    go_simp
    try with_reducible rfl
  simp only [Act.put, List.setIfInBounds_toArray, List.set_cons_succ, List.set_cons_zero]
  refine' wpAnyH_take (i := 17) ?h1x17ux0x4x6 ?hsx17ux0x4x6 ?hfx17ux0x4x6 ?hrx17ux0x4x6 ?hQx17ux0x4x6 (Or.inl ⟨?hwx17ux0x4x6, ?hyx17ux0x4x6⟩) hS ?restx17ux0x4x6
  case h1x17ux0x4x6 => (simp only [List.getElem?_toArray, List.getElem?_cons_succ, List.getElem?_cons_zero]; rfl)
  case hsx17ux0x4x6 => kernel_rfl
  case hfx17ux0x4x6 => kernel_rfl
  case hrx17ux0x4x6 => kernel_rfl
  case hQx17ux0x4x6 => exact fun _ _ _ h => h
  case hwx17ux0x4x6 => rfl
  case hyx17ux0x4x6 =>
    intro W hW
    go_simp
    try with_reducible rfl
  simp only [Act.put, List.setIfInBounds_toArray, List.set_cons_succ, List.set_cons_zero]
  refine' wpAnyH_take (i := 18) ?h1x18ux0x4x6 ?hsx18ux0x4x6 ?hfx18ux0x4x6 ?hrx18ux0x4x6 ?hQx18ux0x4x6 (Or.inl ⟨?hwx18ux0x4x6, ?hyx18ux0x4x6⟩) hS ?restx18ux0x4x6
  case h1x18ux0x4x6 => (simp only [List.getElem?_toArray, List.getElem?_cons_succ, List.getElem?_cons_zero]; rfl)
  case hsx18ux0x4x6 => kernel_rfl
  case hfx18ux0x4x6 => kernel_rfl
  case hrx18ux0x4x6 => kernel_rfl
  case hQx18ux0x4x6 => exact fun _ _ _ h => h
  case hwx18ux0x4x6 => rfl
  case hyx18ux0x4x6 =>
    intro W hW
    go_simp
    try with_reducible rfl
  simp only [Act.put, List.setIfInBounds_toArray, List.set_cons_succ, List.set_cons_zero]
  refine' wpAnyH_take (i := 19) ?h1x19ux0x4x6 ?hsx19ux0x4x6 ?hfx19ux0x4x6 ?hrx19ux0x4x6 ?hQx19ux0x4x6 (Or.inl ⟨?hwx19ux0x4x6, ?hyx19ux0x4x6⟩) hS ?restx19ux0x4x6
  case h1x19ux0x4x6 => (simp only [List.getElem?_toArray, List.getElem?_cons_succ, List.getElem?_cons_zero]; rfl)
  case hsx19ux0x4x6 => kernel_rfl
  case hfx19ux0x4x6 => kernel_rfl
  case hrx19ux0x4x6 => kernel_rfl
  case hQx19ux0x4x6 => exact fun _ _ _ h => h
  case hwx19ux0x4x6 => rfl
  case hyx19ux0x4x6 =>
    intro W hW
    go_simp
    try with_reducible rfl
  simp only [Act.put, List.setIfInBounds_toArray, List.set_cons_succ, List.set_cons_zero]
  refine wpAnyH_done (by kernel_rfl) ?_ _
  go_wp2_with fail
  go_ret
  exact ⟨rfl, B0.out⟩
set_option maxRecDepth 100000 in
set_option maxHeartbeats 16000000 in
theorem halves_ev (A : Array Value) (n : NV) (w : World) (hv : ND w (.agg A) n) (hA : okA 0 A) (hg : greatB n = false) (hr : rightB n.leaf n.ks n.vs.length n.qs.length = true) (k0 l : Nat) (hk : halfN n = k0 + 1) (hlen : n.ks.length = k0 + 1 + l) (hc : l = k0 + 1) : Calls Try.prog 5 #[.agg A] w (AliveP w) := by
  subst hc
  have hz := z26
  obtain ⟨Z, hZ⟩ : ∃ Z : Array Value, Z = #[.bool false, .slice none 0 0, .slice none 0 0, .slice none 0 0] := ⟨_, rfl⟩
  rw [← hZ] at hz
  have Z4 : Hid (Z.size = 4) := by show _ = _; rw [hZ]; rfl
  clear hZ
  have IA := Lib.hid hA.info
  have hs := great_small hg
  have GT : Hid (∀ v W, ND W v n → Calls Try.prog 7 #[v] W fun e w' => e = .returned (.bool false) ∧ Below W.heap.size W w') := fun v W h => by have := great v n W h; rw [hg] at this; exact this
  have RT : Hid (∀ v W, ND W v n → Calls Try.prog 12 #[v] W fun e w' => e = .returned (.bool true) ∧ Below W.heap.size W w') := fun v W h => by have := rightN v n W h; rw [hr] at this; exact this
  have AL := Lib.hid alive8
  obtain ⟨na, hna⟩ : ∃ na : NV, na = ⟨n.leaf, n.ks.take (halfN n), n.vs.take (halfN n), n.qs.take (halfN n)⟩ := ⟨_, rfl⟩
  obtain ⟨nb, hnb⟩ : ∃ nb : NV, nb = ⟨n.leaf, n.ks.drop (halfN n), n.vs.drop (halfN n), n.qs.drop (halfN n)⟩ := ⟨_, rfl⟩
  have HV : Hid (∀ W, ND W (.agg A) n → Calls Try.prog 20 #[.agg A] W fun e w' => ∃ XA XB, e = .returned (.tuple #[.agg XA, .agg XB]) ∧ ND w' (.agg XA) na ∧ ND w' (.agg XB) nb ∧ okA W.heap.size XA ∧ okA W.heap.size XB ∧ Below W.heap.size W w') := fun W h => by
    have := halve A n W h hA hs (right_parts hr).1
    unfold HalfP at this
    rw [half_a hs, half_b n, ← hna, ← hnb] at this
    exact this
  have JN : Hid (∀ XA XB W, ND W (.agg XA) na → ND W (.agg XB) nb → okA 0 XA → okA 0 XB → Calls Try.prog 21 #[.agg XA, .agg XB] W (NewN W n)) := fun XA XB W a b oa ob => by
    obtain ⟨e1, e2⟩ := half_whole hr
    have s1 : small na := by rw [hna]; exact ⟨Nat.le_trans (List.length_take_le' _ _) hs.1, Nat.le_trans (List.length_take_le' _ _) hs.2.1, Nat.le_trans (List.length_take_le' _ _) hs.2.2⟩
    have s2 : small nb := by rw [hnb]; exact ⟨by show (n.ks.drop _).length ≤ 300; rw [List.length_drop]; have := hs.1; omega, by show (n.vs.drop _).length ≤ 300; rw [List.length_drop]; have := hs.2.1; omega, by show (n.qs.drop _).length ≤ 300; rw [List.length_drop]; have := hs.2.2; omega⟩
    have := join XA XB na nb W a oa s1 (by rw [hna]; exact e1) b ob s2 (by rw [hnb]; exact e2)
    rw [show joinN na nb = n by rw [hna, hnb]; exact half_j n] at this
    exact this
  have SM : Hid (∀ X W, ND W (.agg X) n → ND W (.agg A) n → Calls Try.prog 18 #[.agg X, .agg A] W fun e w' => e = .returned (.bool true) ∧ Below W.heap.size W w') := fun X W h k => by
    have := same _ _ n n W h k
    rw [show sameB n n = true by simp [sameB]] at this
    exact this
  have LK : Hid (na.ks.length = k0 + 1) := by show _ = _; rw [hna]; show (n.ks.take _).length = _; rw [List.length_take]; omega
  have LL : Hid (nb.ks.length = (k0 + 1)) := by show _ = _; rw [hnb]; show (n.ks.drop _).length = _; rw [List.length_drop]; omega
  have ORD : Hid (∀ a b, 0 < (k0 + 1) → na.ks.getD k0 0 = a → nb.ks.getD 0 0 = b → a < b) := fun a b h0 ha hb => by
    have e1 : na.ks.getD k0 0 = n.ks.getD k0 0 := by rw [hna]; simp [List.getD, List.getElem?_take_of_lt (show k0 < halfN n by omega)]
    have e2 : nb.ks.getD 0 0 = n.ks.getD (k0 + 1) 0 := by rw [hnb]; simp [List.getD, List.getElem?_drop, hk]
    rw [← ha, ← hb, e1, e2]
    exact rises_le (right_parts hr).2.2.1 (by omega) (by omega)
  have k300 : (k0 : Int) + 1 ≤ 300 := by have := hs.1; omega
  have l300 : (k0 : Int) + 1 ≤ 300 := by have := hs.1; omega
  obtain ⟨W0, hW0⟩ : ∃ W0, W0 = w.alloc (.cells A 26) := ⟨_, rfl⟩
  have hb : Below w.heap.size w W0 := by rw [hW0]; exact (Below.refl _ _).alloc (Nat.le_refl _) _
  have B0 := Lib.hid hb
  have GR : Hid (W0.heap[w.heap.size]? = some (.cells A 26 (0, 0))) := by show _ = _; rw [hW0]; exact heap_alloc_new w _
  have NR := Lib.hid (hv.below hb)
  have HW0 := Lib.hid hW0
  clear hW0 hb hv hA hg hr hs hna hnb hk hlen
  go_enter Try.func5, Try.ntmps5
  go_upto_region 1 with (fail)
  rw [← HW0.out]
  go_wp2_with (refine wpList_load_row rfl 26 (.tmp 1) rfl w.heap.size rfl 26 A (0, 0) _ GR.out Try.underlying26 rfl IA.out ?_)
  refine (GT.out _ _ NR.out).mono ?_
  rintro e w1 ⟨rfl, hb⟩
  have B0 := Lib.hid (B0.out.trans (hb.mono B0.out.size))
  have GR := Lib.hid ((hb.block _ (blk_lt GR.out)).trans GR.out)
  have NR := Lib.hid (NR.out.below hb)
  clear hb
  go_wp2_with (refine wpList_load_met rfl 26 (.tmp 1) rfl w.heap.size rfl 26 A (0, 0) _ GR.out Try.underlying26 ⟨_, rfl⟩ IA.out ?_)
  refine (RT.out _ _ NR.out).mono ?_
  rintro e w2 ⟨rfl, hb⟩
  have B0 := Lib.hid (B0.out.trans (hb.mono B0.out.size))
  have GR := Lib.hid ((hb.block _ (blk_lt GR.out)).trans GR.out)
  have NR := Lib.hid (NR.out.below hb)
  clear hb
  go_wp2_with (refine wpList_load_row rfl 26 (.tmp 1) rfl w.heap.size rfl 26 A (0, 0) _ GR.out Try.underlying26 rfl IA.out ?_)
  refine (HV.out _ NR.out).mono ?_
  rintro e w3 ⟨XA, XB, rfl, ha, hb2, oka, okb, hb⟩
  have B0 := Lib.hid (B0.out.trans (hb.mono B0.out.size))
  have GR := Lib.hid ((hb.block _ (blk_lt GR.out)).trans GR.out)
  have NR := Lib.hid (NR.out.below hb)
  clear hb
  obtain ⟨xa, ca, a1, kA⟩ := ha.keys
  obtain ⟨xb, cb, b1, kB⟩ := hb2.keys
  rw [LK.out] at a1 kA
  rw [LL.out] at b1 kB
  obtain ⟨ba, oa, rfl, hla, hca⟩ := kA.at k0 (by rw [LK.out]; omega)
  obtain ⟨bb, ob, rfl, hlb, hcb⟩ := kB.at 0 (by rw [LL.out]; omega)
  obtain ⟨av, hav⟩ : ∃ av, av = na.ks.getD k0 0 := ⟨_, rfl⟩
  obtain ⟨bv, hbv⟩ : ∃ bv, bv = nb.ks.getD 0 0 := ⟨_, rfl⟩
  have hord := ORD.out av bv (by omega) hav.symm hbv.symm
  rw [← hav] at hca
  rw [← hbv, Nat.add_zero] at hcb
  have hnge : ¬ (bv ≤ av) := by omega
  have CAw : CellF w3 ba (oa + k0) (.int .u64 av) := ⟨hla, hca⟩
  have CBw : CellF w3 bb ob (.int .u64 bv) := ⟨hlb, hcb⟩
  clear hla hca hlb hcb hav hbv
  have A1 := Lib.hid a1
  have C1 := Lib.hid b1
  have OKA := Lib.hid (oka.le (Nat.zero_le _))
  have OKB := Lib.hid (okb.le (Nat.zero_le _))
  obtain ⟨W5, hW5⟩ : ∃ W5, W5 = (((w3.alloc (.cells Z 26)).alloc (.cells Z 26)).setRow w3.heap.size XA).setRow (w3.heap.size + 1) XB := ⟨_, rfl⟩
  have b0 : Below w3.heap.size w3 (w3.alloc (.cells Z 26)) := (Below.refl _ _).alloc (Nat.le_refl _) _
  have b2 : Below w3.heap.size w3 ((w3.alloc (.cells Z 26)).alloc (.cells Z 26)) := b0.alloc (by simp) _
  have G3 : Hid (((w3.alloc (.cells Z 26)).alloc (.cells Z 26)).heap[w3.heap.size]? = some (.cells Z 26 (0, 0))) := by show _ = _; rw [Below.heap_alloc _ _ _ (by simp)]; exact heap_alloc_new w3 _
  have G4 : Hid ((((w3.alloc (.cells Z 26)).alloc (.cells Z 26)).setRow w3.heap.size XA).heap[w3.heap.size + 1]? = some (.cells Z 26 (0, 0))) := by
    show _ = _
    rw [setRow_other _ _ _ _ (by omega)]
    have := heap_alloc_new (w3.alloc (.cells Z 26)) (.cells Z 26)
    simpa using this
  have hb : Below w3.heap.size w3 W5 := by rw [hW5]; exact (b2.trans (below_row _ XA (Nat.le_refl _))).trans (below_row _ XB (by omega))
  have HA : Hid (W5.heap[w3.heap.size]? = some (.cells XA 26 (0, 0))) := by
    show _ = _
    rw [hW5, setRow_other _ _ _ _ (by omega)]
    exact setRow_heap _ _ _ XA 26 _ G3.out
  have HB : Hid (W5.heap[w3.heap.size + 1]? = some (.cells XB 26 (0, 0))) := by
    show _ = _
    rw [hW5]
    exact setRow_heap _ _ _ XB 26 _ G4.out
  have B0 := Lib.hid (B0.out.trans (hb.mono B0.out.size))
  have GR := Lib.hid ((hb.block _ (blk_lt GR.out)).trans GR.out)
  have NR := Lib.hid (NR.out.below hb)
  have CA := Lib.hid (CAw.below hb)
  have CB := Lib.hid (CBw.below hb)
  clear CAw CBw
  have NA := Lib.hid (ha.below hb)
  have NB := Lib.hid (hb2.below hb)
  have KA := Lib.hid (kA.below hb)
  have KB := Lib.hid (kB.below hb)
  have HW5 := Lib.hid hW5
  have S3 : Hid (Z.size = XA.size) := by show _ = _; rw [Z4.out, OKA.out.four]
  have S4 : Hid (Z.size = XB.size) := by show _ = _; rw [Z4.out, OKB.out.four]
  have I3 := Lib.hid OKA.out.info
  have I4 := Lib.hid OKB.out.info
  have O3 := Lib.hid OKA.out.one
  have O4 := Lib.hid OKB.out.one
  clear hW5 b0 b2 ha hb2 hb oka okb a1 b1 kA kB
  go_upto_region 4 with (first
    | (refine wpList_store_row rfl 26 (.tmp 3) (.tmp 18) rfl w3.heap.size XA rfl rfl 26 Z G3.out I3.out S3.out O3.out ?_)
    | (refine wpList_store_row rfl 26 (.tmp 4) (.tmp 19) rfl (w3.heap.size + 1) XB rfl rfl 26 Z G4.out I4.out S4.out O4.out ?_))
  rw [← HW5.out]
  try simp only [Act.put]
  generalize hga : w3.heap.size = ga at HA HB ⊢
  clear HW5 G3 G4 hga hz
  have hk1 : (((k0 : Int) + 1) == 0) = false := by simp; omega
  have hlt1 : (k0 : Int) < (k0 : Int) + 1 := by omega
  have hw1 : IntKind.i64.wrap (k0 : Int) = (k0 : Int) := IntWalk.i64_in _ (by omega)
  have hp1 : (0 : Int) < (k0 : Int) + 1 := by omega
  go_wp2_with fail
  have HA0 := HA
  have HB0 := HB
  have CA0 := CA
  have CB0 := CB
  refine wp_region_held_drew (S := fun W => Below W5.heap.size W5 W) (by kernel_rfl) ((Below.refl _ _).drew) (fun hS => ?_)
  have hb0 : Below W5.heap.size W5 W5.drew := (Below.refl _ _).drew
  have qGR := (hb0.block _ (blk_lt GR.out)).trans GR.out
  have qNR := NR.out.below hb0
  have qHA := (hb0.block _ (blk_lt HA.out)).trans HA.out
  have qHB := (hb0.block _ (blk_lt HB.out)).trans HB.out
  have qNA := NA.out.below hb0
  have qNB := NB.out.below hb0
  have qB0 := B0.out.trans (hb0.mono B0.out.size)
  have qCA := CA.out.below hb0
  have qCB := CB.out.below hb0
  clear hb0 GR NR HA HB NA NB B0 CA CB
  generalize W5.drew = Wps at hS qGR qNR qHA qHB qNA qNB qB0 qCA qCB ⊢
  have GR := Lib.hid qGR
  have NR := Lib.hid qNR
  have HA := Lib.hid qHA
  have HB := Lib.hid qHB
  have NA := Lib.hid qNA
  have NB := Lib.hid qNB
  have B0 := Lib.hid qB0
  have CA := Lib.hid qCA
  have CB := Lib.hid qCB
  clear qGR qNR qHA qHB qNA qNB qB0 qCA qCB
  refine' wpAnyH_take (i := 0) ?h1x0p ?hsx0p ?hfx0p ?hrx0p ?hQx0p (Or.inl ⟨?hwx0p, ?hyx0p⟩) hS ?restx0p
  case h1x0p => (simp only [List.getElem?_toArray, List.getElem?_cons_zero]; rfl)
  case hsx0p => kernel_rfl
  case hfx0p => kernel_rfl
  case hrx0p => kernel_rfl
  case hQx0p => exact fun _ _ _ h => h
  case hwx0p => rfl
  case hyx0p =>
    intro W hW
    go_simp
    try with_reducible rfl
  simp only [Act.put, List.setIfInBounds_toArray, List.set_cons_succ, List.set_cons_zero]
  refine' wpAnyH_take (i := 3) ?h1x3p ?hsx3p ?hfx3p ?hrx3p ?hQx3p (Or.inl ⟨?hwx3p, ?hyx3p⟩) hS ?restx3p
  case h1x3p => (simp only [List.getElem?_toArray, List.getElem?_cons_succ, List.getElem?_cons_zero]; rfl)
  case hsx3p => kernel_rfl
  case hfx3p => kernel_rfl
  case hrx3p => kernel_rfl
  case hQx3p => exact fun _ _ _ h => h
  case hwx3p => rfl
  case hyx3p =>
    intro W hW
    go_simp
    try with_reducible rfl
  simp only [Act.put, List.setIfInBounds_toArray, List.set_cons_succ, List.set_cons_zero]
  refine' wpAnyH_take (i := 1) ?h1x1p ?hsx1p ?hfx1p ?hrx1p ?hQx1p (Or.inl ⟨?hwx1p, ?hyx1p⟩) hS ?restx1p
  case h1x1p => (simp only [List.getElem?_toArray, List.getElem?_cons_succ, List.getElem?_cons_zero]; rfl)
  case hsx1p => kernel_rfl
  case hfx1p => kernel_rfl
  case hrx1p => kernel_rfl
  case hQx1p => exact fun _ _ _ h => h
  case hwx1p => rfl
  case hyx1p =>
    intro W hW
    have ck := (hW.cell (p := ⟨ga, 1, none⟩) (blk_lt HA0.out)).trans ((cell_row HA0.out 1).trans A1.out)
    go_simp
    try with_reducible rfl
  simp only [Act.put, List.setIfInBounds_toArray, List.set_cons_succ, List.set_cons_zero]
  refine' wpAnyH_take (i := 4) ?h1x4p ?hsx4p ?hfx4p ?hrx4p ?hQx4p (Or.inl ⟨?hwx4p, ?hyx4p⟩) hS ?restx4p
  case h1x4p => (simp only [List.getElem?_toArray, List.getElem?_cons_succ, List.getElem?_cons_zero]; rfl)
  case hsx4p => kernel_rfl
  case hfx4p => kernel_rfl
  case hrx4p => kernel_rfl
  case hQx4p => exact fun _ _ _ h => h
  case hwx4p => rfl
  case hyx4p =>
    intro W hW
    have ck := (hW.cell (p := ⟨ga + 1, 1, none⟩) (blk_lt HB0.out)).trans ((cell_row HB0.out 1).trans C1.out)
    go_simp
    try with_reducible rfl
  simp only [Act.put, List.setIfInBounds_toArray, List.set_cons_succ, List.set_cons_zero]
  refine' wpAnyH_take (i := 2) ?h1x2p ?hsx2p ?hfx2p ?hrx2p ?hQx2p (Or.inl ⟨?hwx2p, ?hyx2p⟩) hS ?restx2p
  case h1x2p => (simp only [List.getElem?_toArray, List.getElem?_cons_succ, List.getElem?_cons_zero]; rfl)
  case hsx2p => kernel_rfl
  case hfx2p => kernel_rfl
  case hrx2p => kernel_rfl
  case hQx2p => exact fun _ _ _ h => h
  case hwx2p => rfl
  case hyx2p =>
    intro W hW
    go_simp
    try with_reducible rfl
  simp only [Act.put, List.setIfInBounds_toArray, List.set_cons_succ, List.set_cons_zero]
  refine' wpAnyH_take (i := 5) ?h1x5p ?hsx5p ?hfx5p ?hrx5p ?hQx5p (Or.inl ⟨?hwx5p, ?hyx5p⟩) hS ?restx5p
  case h1x5p => (simp only [List.getElem?_toArray, List.getElem?_cons_succ, List.getElem?_cons_zero]; rfl)
  case hsx5p => kernel_rfl
  case hfx5p => kernel_rfl
  case hrx5p => kernel_rfl
  case hQx5p => exact fun _ _ _ h => h
  case hwx5p => rfl
  case hyx5p =>
    intro W hW
    go_simp
    try with_reducible rfl
  simp only [Act.put, List.setIfInBounds_toArray, List.set_cons_succ, List.set_cons_zero]
  refine' wpAnyH_take (i := 6) ?h1x6p ?hsx6p ?hfx6p ?hrx6p ?hQx6p (Or.inl ⟨?hwx6p, ?hyx6p⟩) hS ?restx6p
  case h1x6p => (simp only [List.getElem?_toArray, List.getElem?_cons_succ, List.getElem?_cons_zero]; rfl)
  case hsx6p => kernel_rfl
  case hfx6p => kernel_rfl
  case hrx6p => kernel_rfl
  case hQx6p => exact fun _ _ _ h => h
  case hwx6p => rfl
  case hyx6p =>
    intro W hW
    go_simp
    try with_reducible rfl
  simp only [Act.put, List.setIfInBounds_toArray, List.set_cons_succ, List.set_cons_zero]
  refine' wpAnyH_take (i := 7) ?h1x7p ?hsx7p ?hfx7p ?hrx7p ?hQx7p (Or.inl ⟨?hwx7p, ?hyx7p⟩) hS ?restx7p
  case h1x7p => (simp only [List.getElem?_toArray, List.getElem?_cons_succ, List.getElem?_cons_zero]; rfl)
  case hsx7p => kernel_rfl
  case hfx7p => kernel_rfl
  case hrx7p => kernel_rfl
  case hQx7p => exact fun _ _ _ h => h
  case hwx7p => rfl
  case hyx7p =>
    intro W hW
    go_simp
    try with_reducible rfl
  simp only [Act.put, List.setIfInBounds_toArray, List.set_cons_succ, List.set_cons_zero]
  refine wpAnyH_done (by kernel_rfl) ?_ _
  go_wp2_with fail
  have HA0 := HA
  have HB0 := HB
  have CA0 := CA
  have CB0 := CB
  refine wp_region_held_drew (S := fun W => Below Wps.heap.size Wps W) (by kernel_rfl) ((Below.refl _ _).drew) (fun hS => ?_)
  have hb0 : Below Wps.heap.size Wps Wps.drew := (Below.refl _ _).drew
  have qGR := (hb0.block _ (blk_lt GR.out)).trans GR.out
  have qNR := NR.out.below hb0
  have qHA := (hb0.block _ (blk_lt HA.out)).trans HA.out
  have qHB := (hb0.block _ (blk_lt HB.out)).trans HB.out
  have qNA := NA.out.below hb0
  have qNB := NB.out.below hb0
  have qB0 := B0.out.trans (hb0.mono B0.out.size)
  have qCA := CA.out.below hb0
  have qCB := CB.out.below hb0
  clear hb0 GR NR HA HB NA NB B0 CA CB
  generalize Wps.drew = Wqs at hS qGR qNR qHA qHB qNA qNB qB0 qCA qCB ⊢
  have GR := Lib.hid qGR
  have NR := Lib.hid qNR
  have HA := Lib.hid qHA
  have HB := Lib.hid qHB
  have NA := Lib.hid qNA
  have NB := Lib.hid qNB
  have B0 := Lib.hid qB0
  have CA := Lib.hid qCA
  have CB := Lib.hid qCB
  clear qGR qNR qHA qHB qNA qNB qB0 qCA qCB
  refine' wpAnyH_take (i := 0) ?h1x0q ?hsx0q ?hfx0q ?hrx0q ?hQx0q (Or.inl ⟨?hwx0q, ?hyx0q⟩) hS ?restx0q
  case h1x0q => (simp only [List.getElem?_toArray, List.getElem?_cons_zero]; rfl)
  case hsx0q => kernel_rfl
  case hfx0q => kernel_rfl
  case hrx0q => kernel_rfl
  case hQx0q => exact fun _ _ _ h => h
  case hwx0q => rfl
  case hyx0q =>
    intro W hW
    go_simp
    try with_reducible rfl
  simp only [Act.put, List.setIfInBounds_toArray, List.set_cons_succ, List.set_cons_zero]
  refine' wpAnyH_take (i := 1) ?h1x1q ?hsx1q ?hfx1q ?hrx1q ?hQx1q (Or.inl ⟨?hwx1q, ?hyx1q⟩) hS ?restx1q
  case h1x1q => (simp only [List.getElem?_toArray, List.getElem?_cons_succ, List.getElem?_cons_zero]; rfl)
  case hsx1q => kernel_rfl
  case hfx1q => kernel_rfl
  case hrx1q => kernel_rfl
  case hQx1q => exact fun _ _ _ h => h
  case hwx1q => rfl
  case hyx1q =>
    intro W hW
    go_simp
    try with_reducible rfl
  simp only [Act.put, List.setIfInBounds_toArray, List.set_cons_succ, List.set_cons_zero]
  refine' wpAnyH_take (i := 2) ?h1x2q ?hsx2q ?hfx2q ?hrx2q ?hQx2q (Or.inl ⟨?hwx2q, ?hyx2q⟩) hS ?restx2q
  case h1x2q => (simp only [List.getElem?_toArray, List.getElem?_cons_succ, List.getElem?_cons_zero]; rfl)
  case hsx2q => kernel_rfl
  case hfx2q => kernel_rfl
  case hrx2q => kernel_rfl
  case hQx2q => exact fun _ _ _ h => h
  case hwx2q => rfl
  case hyx2q =>
    intro W hW
    go_simp
    try with_reducible rfl
  simp only [Act.put, List.setIfInBounds_toArray, List.set_cons_succ, List.set_cons_zero]
  refine' wpAnyH_take (i := 3) ?h1x3q ?hsx3q ?hfx3q ?hrx3q ?hQx3q (Or.inl ⟨?hwx3q, ?hyx3q⟩) hS ?restx3q
  case h1x3q => (simp only [List.getElem?_toArray, List.getElem?_cons_succ, List.getElem?_cons_zero]; rfl)
  case hsx3q => kernel_rfl
  case hfx3q => kernel_rfl
  case hrx3q => kernel_rfl
  case hQx3q => exact fun _ _ _ h => h
  case hwx3q => rfl
  case hyx3q =>
    intro W hW
    go_simp
    try with_reducible rfl
  simp only [Act.put, List.setIfInBounds_toArray, List.set_cons_succ, List.set_cons_zero]
  refine' wpAnyH_take (i := 4) ?h1x4q ?hsx4q ?hfx4q ?hrx4q ?hQx4q (Or.inl ⟨?hwx4q, ?hyx4q⟩) hS ?restx4q
  case h1x4q => (simp only [List.getElem?_toArray, List.getElem?_cons_succ, List.getElem?_cons_zero]; rfl)
  case hsx4q => kernel_rfl
  case hfx4q => kernel_rfl
  case hrx4q => kernel_rfl
  case hQx4q => exact fun _ _ _ h => h
  case hwx4q => rfl
  case hyx4q =>
    intro W hW
    go_simp
    try with_reducible rfl
  simp only [Act.put, List.setIfInBounds_toArray, List.set_cons_succ, List.set_cons_zero]
  refine' wpAnyH_take (i := 5) ?h1x5q ?hsx5q ?hfx5q ?hrx5q ?hQx5q (Or.inl ⟨?hwx5q, ?hyx5q⟩) hS ?restx5q
  case h1x5q => (simp only [List.getElem?_toArray, List.getElem?_cons_succ, List.getElem?_cons_zero]; rfl)
  case hsx5q => kernel_rfl
  case hfx5q => kernel_rfl
  case hrx5q => kernel_rfl
  case hQx5q => exact fun _ _ _ h => h
  case hwx5q => rfl
  case hyx5q =>
    intro W hW
    go_simp
    try with_reducible rfl
  simp only [Act.put, List.setIfInBounds_toArray, List.set_cons_succ, List.set_cons_zero]
  refine' wpAnyH_take (i := 6) ?h1x6q ?hsx6q ?hfx6q ?hrx6q ?hQx6q (Or.inl ⟨?hwx6q, ?hyx6q⟩) hS ?restx6q
  case h1x6q => (simp only [List.getElem?_toArray, List.getElem?_cons_succ, List.getElem?_cons_zero]; rfl)
  case hsx6q => kernel_rfl
  case hfx6q => kernel_rfl
  case hrx6q => kernel_rfl
  case hQx6q => exact fun _ _ _ h => h
  case hwx6q => rfl
  case hyx6q =>
    intro W hW
    go_simp
    try with_reducible rfl
  simp only [Act.put, List.setIfInBounds_toArray, List.set_cons_succ, List.set_cons_zero]
  refine' wpAnyH_take (i := 8) ?h1x8q ?hsx8q ?hfx8q ?hrx8q ?hQx8q (Or.inl ⟨?hwx8q, ?hyx8q⟩) hS ?restx8q
  case h1x8q => (simp only [List.getElem?_toArray, List.getElem?_cons_succ, List.getElem?_cons_zero]; rfl)
  case hsx8q => kernel_rfl
  case hfx8q => kernel_rfl
  case hrx8q => kernel_rfl
  case hQx8q => exact fun _ _ _ h => h
  case hwx8q => rfl
  case hyx8q =>
    intro W hW
    go_simp
    try with_reducible rfl
  simp only [Act.put, List.setIfInBounds_toArray, List.set_cons_succ, List.set_cons_zero]
  refine' wpAnyH_take (i := 12) ?h1x12q ?hsx12q ?hfx12q ?hrx12q ?hQx12q (Or.inl ⟨?hwx12q, ?hyx12q⟩) hS ?restx12q
  case h1x12q => (simp only [List.getElem?_toArray, List.getElem?_cons_succ, List.getElem?_cons_zero]; rfl)
  case hsx12q => kernel_rfl
  case hfx12q => kernel_rfl
  case hrx12q => kernel_rfl
  case hQx12q => exact fun _ _ _ h => h
  case hwx12q => rfl
  case hyx12q =>
    intro W hW
    go_simp
    try with_reducible rfl
  simp only [Act.put, List.setIfInBounds_toArray, List.set_cons_succ, List.set_cons_zero]
  refine' wpAnyH_take (i := 7) ?h1x7q ?hsx7q ?hfx7q ?hrx7q ?hQx7q (Or.inl ⟨?hwx7q, ?hyx7q⟩) hS ?restx7q
  case h1x7q => (simp only [List.getElem?_toArray, List.getElem?_cons_succ, List.getElem?_cons_zero]; rfl)
  case hsx7q => kernel_rfl
  case hfx7q => kernel_rfl
  case hrx7q => kernel_rfl
  case hQx7q => exact fun _ _ _ h => h
  case hwx7q => rfl
  case hyx7q =>
    intro W hW
    have ck := (hW.cell (p := ⟨ga, 1, none⟩) (blk_lt HA0.out)).trans ((cell_row HA0.out 1).trans A1.out)
    go_simp
    try with_reducible rfl
  simp only [Act.put, List.setIfInBounds_toArray, List.set_cons_succ, List.set_cons_zero]
  refine' wpAnyH_take (i := 9) ?h1x9q ?hsx9q ?hfx9q ?hrx9q ?hQx9q (Or.inl ⟨?hwx9q, ?hyx9q⟩) hS ?restx9q
  case h1x9q => (simp only [List.getElem?_toArray, List.getElem?_cons_succ, List.getElem?_cons_zero]; rfl)
  case hsx9q => kernel_rfl
  case hfx9q => kernel_rfl
  case hrx9q => kernel_rfl
  case hQx9q => exact fun _ _ _ h => h
  case hwx9q => rfl
  case hyx9q =>
    intro W hW
    go_simp
    try with_reducible rfl
  simp only [Act.put, List.setIfInBounds_toArray, List.set_cons_succ, List.set_cons_zero]
  refine' wpAnyH_take (i := 13) ?h1x13q ?hsx13q ?hfx13q ?hrx13q ?hQx13q (Or.inl ⟨?hwx13q, ?hyx13q⟩) hS ?restx13q
  case h1x13q => (simp only [List.getElem?_toArray, List.getElem?_cons_succ, List.getElem?_cons_zero]; rfl)
  case hsx13q => kernel_rfl
  case hfx13q => kernel_rfl
  case hrx13q => kernel_rfl
  case hQx13q => exact fun _ _ _ h => h
  case hwx13q => rfl
  case hyx13q =>
    intro W hW
    have ck := (hW.cell (p := ⟨ga + 1, 1, none⟩) (blk_lt HB0.out)).trans ((cell_row HB0.out 1).trans C1.out)
    go_simp
    try with_reducible rfl
  simp only [Act.put, List.setIfInBounds_toArray, List.set_cons_succ, List.set_cons_zero]
  refine' wpAnyH_take (i := 10) ?h1x10q ?hsx10q ?hfx10q ?hrx10q ?hQx10q (Or.inl ⟨?hwx10q, ?hyx10q⟩) hS ?restx10q
  case h1x10q => (simp only [List.getElem?_toArray, List.getElem?_cons_succ, List.getElem?_cons_zero]; rfl)
  case hsx10q => kernel_rfl
  case hfx10q => kernel_rfl
  case hrx10q => kernel_rfl
  case hQx10q => exact fun _ _ _ h => h
  case hwx10q => rfl
  case hyx10q =>
    intro W hW
    go_simp
    try with_reducible rfl
  simp only [Act.put, List.setIfInBounds_toArray, List.set_cons_succ, List.set_cons_zero]
  refine' wpAnyH_take (i := 14) ?h1x14q ?hsx14q ?hfx14q ?hrx14q ?hQx14q (Or.inl ⟨?hwx14q, ?hyx14q⟩) hS ?restx14q
  case h1x14q => (simp only [List.getElem?_toArray, List.getElem?_cons_succ, List.getElem?_cons_zero]; rfl)
  case hsx14q => kernel_rfl
  case hfx14q => kernel_rfl
  case hrx14q => kernel_rfl
  case hQx14q => exact fun _ _ _ h => h
  case hwx14q => rfl
  case hyx14q =>
    intro W hW
    go_simp
    try with_reducible rfl
  simp only [Act.put, List.setIfInBounds_toArray, List.set_cons_succ, List.set_cons_zero]
  refine' wpAnyH_take (i := 11) ?h1x11q ?hsx11q ?hfx11q ?hrx11q ?hQx11q (Or.inl ⟨?hwx11q, ?hyx11q⟩) hS ?restx11q
  case h1x11q => (simp only [List.getElem?_toArray, List.getElem?_cons_succ, List.getElem?_cons_zero]; rfl)
  case hsx11q => kernel_rfl
  case hfx11q => kernel_rfl
  case hrx11q => kernel_rfl
  case hQx11q => exact fun _ _ _ h => h
  case hwx11q => rfl
  case hyx11q =>
    intro W hW
    have ck := (CA0.out.below hW).2
    go_simp
    try with_reducible rfl
  simp only [Act.put, List.setIfInBounds_toArray, List.set_cons_succ, List.set_cons_zero]
  refine' wpAnyH_take (i := 15) ?h1x15q ?hsx15q ?hfx15q ?hrx15q ?hQx15q (Or.inl ⟨?hwx15q, ?hyx15q⟩) hS ?restx15q
  case h1x15q => (simp only [List.getElem?_toArray, List.getElem?_cons_succ, List.getElem?_cons_zero]; rfl)
  case hsx15q => kernel_rfl
  case hfx15q => kernel_rfl
  case hrx15q => kernel_rfl
  case hQx15q => exact fun _ _ _ h => h
  case hwx15q => rfl
  case hyx15q =>
    intro W hW
    have ck := (CB0.out.below hW).2
    go_simp
    try with_reducible rfl
  simp only [Act.put, List.setIfInBounds_toArray, List.set_cons_succ, List.set_cons_zero]
  refine' wpAnyH_take (i := 16) ?h1x16q ?hsx16q ?hfx16q ?hrx16q ?hQx16q (Or.inl ⟨?hwx16q, ?hyx16q⟩) hS ?restx16q
  case h1x16q => (simp only [List.getElem?_toArray, List.getElem?_cons_succ, List.getElem?_cons_zero]; rfl)
  case hsx16q => kernel_rfl
  case hfx16q => kernel_rfl
  case hrx16q => kernel_rfl
  case hQx16q => exact fun _ _ _ h => h
  case hwx16q => rfl
  case hyx16q =>
    intro W hW
    go_simp
    try with_reducible rfl
  simp only [Act.put, List.setIfInBounds_toArray, List.set_cons_succ, List.set_cons_zero]
  refine' wpAnyH_take (i := 17) ?h1x17q ?hsx17q ?hfx17q ?hrx17q ?hQx17q (Or.inl ⟨?hwx17q, ?hyx17q⟩) hS ?restx17q
  case h1x17q => (simp only [List.getElem?_toArray, List.getElem?_cons_succ, List.getElem?_cons_zero]; rfl)
  case hsx17q => kernel_rfl
  case hfx17q => kernel_rfl
  case hrx17q => kernel_rfl
  case hQx17q => exact fun _ _ _ h => h
  case hwx17q => rfl
  case hyx17q =>
    intro W hW
    go_simp
    try with_reducible rfl
  simp only [Act.put, List.setIfInBounds_toArray, List.set_cons_succ, List.set_cons_zero]
  refine' wpAnyH_take (i := 18) ?h1x18q ?hsx18q ?hfx18q ?hrx18q ?hQx18q (Or.inl ⟨?hwx18q, ?hyx18q⟩) hS ?restx18q
  case h1x18q => (simp only [List.getElem?_toArray, List.getElem?_cons_succ, List.getElem?_cons_zero]; rfl)
  case hsx18q => kernel_rfl
  case hfx18q => kernel_rfl
  case hrx18q => kernel_rfl
  case hQx18q => exact fun _ _ _ h => h
  case hwx18q => rfl
  case hyx18q =>
    intro W hW
    go_simp
    try with_reducible rfl
  simp only [Act.put, List.setIfInBounds_toArray, List.set_cons_succ, List.set_cons_zero]
  refine wpAnyH_done (by kernel_rfl) ?_ _
  go_wp2_with fail
  refine wp_region_held_drew (S := fun W => Below Wqs.heap.size Wqs W ∧ W.heap[w.heap.size]? = some (.cells A 26 (0, 0)) ∧ W.heap[ga]? = some (.cells XA 26 (0, 0)) ∧ W.heap[(ga + 1)]? = some (.cells XB 26 (0, 0))) (by kernel_rfl) (⟨(Below.refl _ _).drew, GR.out, HA.out, HB.out⟩) (fun hS => ?_)
  have hb0 : Below Wqs.heap.size Wqs Wqs.drew := (Below.refl _ _).drew
  have qGR := (hb0.block _ (blk_lt GR.out)).trans GR.out
  have qNR := NR.out.below hb0
  have qHA := (hb0.block _ (blk_lt HA.out)).trans HA.out
  have qHB := (hb0.block _ (blk_lt HB.out)).trans HB.out
  have qNA := NA.out.below hb0
  have qNB := NB.out.below hb0
  have qB0 := B0.out.trans (hb0.mono B0.out.size)
  have qCA := CA.out.below hb0
  have qCB := CB.out.below hb0
  clear hb0 GR NR HA HB NA NB B0 CA CB
  generalize Wqs.drew = Wus at hS qGR qNR qHA qHB qNA qNB qB0 qCA qCB ⊢
  have GR := Lib.hid qGR
  have NR := Lib.hid qNR
  have HA := Lib.hid qHA
  have HB := Lib.hid qHB
  have NA := Lib.hid qNA
  have NB := Lib.hid qNB
  have B0 := Lib.hid qB0
  have CA := Lib.hid qCA
  have CB := Lib.hid qCB
  clear qGR qNR qHA qHB qNA qNB qB0 qCA qCB
  refine wpAnyH_ready (rs := [0]) (by kernel_rfl) (by simp) ?_
  refine' (AllReadyH.cons ?hoc0u (fun K hK => ?stc0u) AllReadyH.nil)
  case hoc0u => (simp only [List.getElem?_toArray, List.getElem?_cons_zero]; rfl)
  go_simp
  refine (AL.out Wus).mono ?_
  rintro e Wux0 ⟨rfl, hb⟩
  have GR := Lib.hid ((hb.block _ (blk_lt GR.out)).trans GR.out)
  have NR := Lib.hid (NR.out.below hb)
  have HA := Lib.hid ((hb.block _ (blk_lt HA.out)).trans HA.out)
  have HB := Lib.hid ((hb.block _ (blk_lt HB.out)).trans HB.out)
  have NA := Lib.hid (NA.out.below hb)
  have NB := Lib.hid (NB.out.below hb)
  have B0 := Lib.hid (B0.out.trans (hb.mono B0.out.size))
  have CA := Lib.hid (CA.out.below hb)
  have CB := Lib.hid (CB.out.below hb)
  go_wp2_with fail
  refine hK.out _ _ (⟨hS.1.trans (hb.mono hS.1.size), (hb.block _ (blk_lt hS.2.1)).trans hS.2.1, (hb.block _ (blk_lt hS.2.2.1)).trans hS.2.2.1, (hb.block _ (blk_lt hS.2.2.2)).trans hS.2.2.2⟩) (fun hHeld => ?_)
  clear hK K
  try simp only [Act.put, List.setIfInBounds_toArray, List.set_cons_succ, List.set_cons_zero]
  clear hS
  have hS := hHeld
  clear hHeld
  clear hb
  refine' wpAnyH_take (i := 1) ?h1x1ux0 ?hsx1ux0 ?hfx1ux0 ?hrx1ux0 ?hQx1ux0 (Or.inl ⟨?hwx1ux0, ?hyx1ux0⟩) hS ?restx1ux0
  case h1x1ux0 => (simp only [List.getElem?_toArray, List.getElem?_cons_succ, List.getElem?_cons_zero]; rfl)
  case hsx1ux0 => kernel_rfl
  case hfx1ux0 => kernel_rfl
  case hrx1ux0 => kernel_rfl
  case hQx1ux0 => exact fun _ _ _ h => h
  case hwx1ux0 => rfl
  case hyx1ux0 =>
    intro W hW
    go_simp
    try with_reducible rfl
  simp only [Act.put, List.setIfInBounds_toArray, List.set_cons_succ, List.set_cons_zero]
  refine' wpAnyH_take (i := 2) ?h1x2ux0 ?hsx2ux0 ?hfx2ux0 ?hrx2ux0 ?hQx2ux0 (yieldsIf_load_at ?hwx2ux0 26 (.tmp 3) ?hopx2ux0 ga 0 rfl XA _ (fun W hW => range_row hW.2.2.1) Try.underlying26 rfl ?hix2ux0) hS ?restx2ux0
  case h1x2ux0 => (simp only [List.getElem?_toArray, List.getElem?_cons_succ, List.getElem?_cons_zero]; rfl)
  case hopx2ux0 => rfl
  case hsx2ux0 => kernel_rfl
  case hfx2ux0 => kernel_rfl
  case hrx2ux0 => kernel_rfl
  case hQx2ux0 => exact fun _ _ _ h => h
  case hwx2ux0 => rfl
  case hix2ux0 => exact I3.out
  simp only [Act.put, List.setIfInBounds_toArray, List.set_cons_succ, List.set_cons_zero]
  refine' wpAnyH_take (i := 3) ?h1x3ux0 ?hsx3ux0 ?hfx3ux0 ?hrx3ux0 ?hQx3ux0 (yieldsIf_load_at ?hwx3ux0 26 (.tmp 4) ?hopx3ux0 (ga + 1) 0 rfl XB _ (fun W hW => range_row hW.2.2.2) Try.underlying26 rfl ?hix3ux0) hS ?restx3ux0
  case h1x3ux0 => (simp only [List.getElem?_toArray, List.getElem?_cons_succ, List.getElem?_cons_zero]; rfl)
  case hopx3ux0 => rfl
  case hsx3ux0 => kernel_rfl
  case hfx3ux0 => kernel_rfl
  case hrx3ux0 => kernel_rfl
  case hQx3ux0 => exact fun _ _ _ h => h
  case hwx3ux0 => rfl
  case hix3ux0 => exact I4.out
  simp only [Act.put, List.setIfInBounds_toArray, List.set_cons_succ, List.set_cons_zero]
  refine' wpAnyH_take (i := 5) ?h1x5ux0 ?hsx5ux0 ?hfx5ux0 ?hrx5ux0 ?hQx5ux0 (yieldsIf_load_at ?hwx5ux0 26 (.tmp 1) ?hopx5ux0 w.heap.size 0 rfl A _ (fun W hW => range_row hW.2.1) Try.underlying26 rfl ?hix5ux0) hS ?restx5ux0
  case h1x5ux0 => (simp only [List.getElem?_toArray, List.getElem?_cons_succ, List.getElem?_cons_zero]; rfl)
  case hopx5ux0 => rfl
  case hsx5ux0 => kernel_rfl
  case hfx5ux0 => kernel_rfl
  case hrx5ux0 => kernel_rfl
  case hQx5ux0 => exact fun _ _ _ h => h
  case hwx5ux0 => rfl
  case hix5ux0 => exact IA.out
  simp only [Act.put, List.setIfInBounds_toArray, List.set_cons_succ, List.set_cons_zero]
  refine wpAnyH_ready (rs := [4]) (by kernel_rfl) (by simp) ?_
  refine' (AllReadyH.cons ?hoc4ux0 (fun K hK => ?stc4ux0) AllReadyH.nil)
  case hoc4ux0 => (simp only [List.getElem?_toArray, List.getElem?_cons_succ, List.getElem?_cons_zero]; rfl)
  go_simp
  refine (JN.out XA XB Wux0 NA.out NB.out OKA.out OKB.out).mono ?_
  rintro e Wux0x4 ⟨XJ, rfl, hn, hok, hb⟩
  have GR := Lib.hid ((hb.block _ (blk_lt GR.out)).trans GR.out)
  have NR := Lib.hid (NR.out.below hb)
  have HA := Lib.hid ((hb.block _ (blk_lt HA.out)).trans HA.out)
  have HB := Lib.hid ((hb.block _ (blk_lt HB.out)).trans HB.out)
  have NA := Lib.hid (NA.out.below hb)
  have NB := Lib.hid (NB.out.below hb)
  have B0 := Lib.hid (B0.out.trans (hb.mono B0.out.size))
  have CA := Lib.hid (CA.out.below hb)
  have CB := Lib.hid (CB.out.below hb)
  have NJ := Lib.hid hn
  clear hn hok
  go_wp2_with fail
  refine hK.out _ _ (⟨hS.1.trans (hb.mono hS.1.size), (hb.block _ (blk_lt hS.2.1)).trans hS.2.1, (hb.block _ (blk_lt hS.2.2.1)).trans hS.2.2.1, (hb.block _ (blk_lt hS.2.2.2)).trans hS.2.2.2⟩) (fun hHeld => ?_)
  clear hK K
  try simp only [Act.put, List.setIfInBounds_toArray, List.set_cons_succ, List.set_cons_zero]
  clear hS
  have hS := hHeld
  clear hHeld
  clear hb
  refine wpAnyH_ready (rs := [6]) (by kernel_rfl) (by simp) ?_
  refine' (AllReadyH.cons ?hoc6ux0x4 (fun K hK => ?stc6ux0x4) AllReadyH.nil)
  case hoc6ux0x4 => (simp only [List.getElem?_toArray, List.getElem?_cons_succ, List.getElem?_cons_zero]; rfl)
  go_simp
  refine (SM.out XJ Wux0x4 NJ.out NR.out).mono ?_
  rintro e Wux0x4x6 ⟨rfl, hb⟩
  have GR := Lib.hid ((hb.block _ (blk_lt GR.out)).trans GR.out)
  have NR := Lib.hid (NR.out.below hb)
  have HA := Lib.hid ((hb.block _ (blk_lt HA.out)).trans HA.out)
  have HB := Lib.hid ((hb.block _ (blk_lt HB.out)).trans HB.out)
  have NA := Lib.hid (NA.out.below hb)
  have NB := Lib.hid (NB.out.below hb)
  have B0 := Lib.hid (B0.out.trans (hb.mono B0.out.size))
  have CA := Lib.hid (CA.out.below hb)
  have CB := Lib.hid (CB.out.below hb)
  have NJ := Lib.hid (NJ.out.below hb)
  go_wp2_with fail
  refine hK.out _ _ (⟨hS.1.trans (hb.mono hS.1.size), (hb.block _ (blk_lt hS.2.1)).trans hS.2.1, (hb.block _ (blk_lt hS.2.2.1)).trans hS.2.2.1, (hb.block _ (blk_lt hS.2.2.2)).trans hS.2.2.2⟩) (fun hHeld => ?_)
  clear hK K
  try simp only [Act.put, List.setIfInBounds_toArray, List.set_cons_succ, List.set_cons_zero]
  clear hS
  have hS := hHeld
  clear hHeld
  clear hb
  refine' wpAnyH_take (i := 7) ?h1x7ux0x4x6 ?hsx7ux0x4x6 ?hfx7ux0x4x6 ?hrx7ux0x4x6 ?hQx7ux0x4x6 (Or.inl ⟨?hwx7ux0x4x6, ?hyx7ux0x4x6⟩) hS ?restx7ux0x4x6
  case h1x7ux0x4x6 => (simp only [List.getElem?_toArray, List.getElem?_cons_succ, List.getElem?_cons_zero]; rfl)
  case hsx7ux0x4x6 => kernel_rfl
  case hfx7ux0x4x6 => kernel_rfl
  case hrx7ux0x4x6 => kernel_rfl
  case hQx7ux0x4x6 => exact fun _ _ _ h => h
  case hwx7ux0x4x6 => rfl
  case hyx7ux0x4x6 =>
    intro W hW
    go_simp
    try with_reducible rfl
  simp only [Act.put, List.setIfInBounds_toArray, List.set_cons_succ, List.set_cons_zero]
  refine' wpAnyH_take (i := 8) ?h1x8ux0x4x6 ?hsx8ux0x4x6 ?hfx8ux0x4x6 ?hrx8ux0x4x6 ?hQx8ux0x4x6 (Or.inl ⟨?hwx8ux0x4x6, ?hyx8ux0x4x6⟩) hS ?restx8ux0x4x6
  case h1x8ux0x4x6 => (simp only [List.getElem?_toArray, List.getElem?_cons_succ, List.getElem?_cons_zero]; rfl)
  case hsx8ux0x4x6 => kernel_rfl
  case hfx8ux0x4x6 => kernel_rfl
  case hrx8ux0x4x6 => kernel_rfl
  case hQx8ux0x4x6 => exact fun _ _ _ h => h
  case hwx8ux0x4x6 => rfl
  case hyx8ux0x4x6 =>
    intro W hW
    go_simp
    try with_reducible rfl
  simp only [Act.put, List.setIfInBounds_toArray, List.set_cons_succ, List.set_cons_zero]
  refine' wpAnyH_take (i := 9) ?h1x9ux0x4x6 ?hsx9ux0x4x6 ?hfx9ux0x4x6 ?hrx9ux0x4x6 ?hQx9ux0x4x6 (Or.inl ⟨?hwx9ux0x4x6, ?hyx9ux0x4x6⟩) hS ?restx9ux0x4x6
  case h1x9ux0x4x6 => (simp only [List.getElem?_toArray, List.getElem?_cons_succ, List.getElem?_cons_zero]; rfl)
  case hsx9ux0x4x6 => kernel_rfl
  case hfx9ux0x4x6 => kernel_rfl
  case hrx9ux0x4x6 => kernel_rfl
  case hQx9ux0x4x6 => exact fun _ _ _ h => h
  case hwx9ux0x4x6 => rfl
  case hyx9ux0x4x6 =>
    intro W hW
    go_simp
    try with_reducible rfl
  simp only [Act.put, List.setIfInBounds_toArray, List.set_cons_succ, List.set_cons_zero]
  refine' wpAnyH_take (i := 10) ?h1x10ux0x4x6 ?hsx10ux0x4x6 ?hfx10ux0x4x6 ?hrx10ux0x4x6 ?hQx10ux0x4x6 (Or.inl ⟨?hwx10ux0x4x6, ?hyx10ux0x4x6⟩) hS ?restx10ux0x4x6
  case h1x10ux0x4x6 => (simp only [List.getElem?_toArray, List.getElem?_cons_succ, List.getElem?_cons_zero]; rfl)
  case hsx10ux0x4x6 => kernel_rfl
  case hfx10ux0x4x6 => kernel_rfl
  case hrx10ux0x4x6 => kernel_rfl
  case hQx10ux0x4x6 => exact fun _ _ _ h => h
  case hwx10ux0x4x6 => rfl
  case hyx10ux0x4x6 =>
    intro W hW
    go_simp
    try with_reducible rfl
  simp only [Act.put, List.setIfInBounds_toArray, List.set_cons_succ, List.set_cons_zero]
  refine' wpAnyH_take (i := 11) ?h1x11ux0x4x6 ?hsx11ux0x4x6 ?hfx11ux0x4x6 ?hrx11ux0x4x6 ?hQx11ux0x4x6 (Or.inl ⟨?hwx11ux0x4x6, ?hyx11ux0x4x6⟩) hS ?restx11ux0x4x6
  case h1x11ux0x4x6 => (simp only [List.getElem?_toArray, List.getElem?_cons_succ, List.getElem?_cons_zero]; rfl)
  case hsx11ux0x4x6 => kernel_rfl
  case hfx11ux0x4x6 => kernel_rfl
  case hrx11ux0x4x6 => kernel_rfl
  case hQx11ux0x4x6 => exact fun _ _ _ h => h
  case hwx11ux0x4x6 => rfl
  case hyx11ux0x4x6 =>
    intro W hW
    go_simp
    try with_reducible rfl
  simp only [Act.put, List.setIfInBounds_toArray, List.set_cons_succ, List.set_cons_zero]
  refine' wpAnyH_take (i := 12) ?h1x12ux0x4x6 ?hsx12ux0x4x6 ?hfx12ux0x4x6 ?hrx12ux0x4x6 ?hQx12ux0x4x6 (Or.inl ⟨?hwx12ux0x4x6, ?hyx12ux0x4x6⟩) hS ?restx12ux0x4x6
  case h1x12ux0x4x6 => (simp only [List.getElem?_toArray, List.getElem?_cons_succ, List.getElem?_cons_zero]; rfl)
  case hsx12ux0x4x6 => kernel_rfl
  case hfx12ux0x4x6 => kernel_rfl
  case hrx12ux0x4x6 => kernel_rfl
  case hQx12ux0x4x6 => exact fun _ _ _ h => h
  case hwx12ux0x4x6 => rfl
  case hyx12ux0x4x6 =>
    intro W hW
    go_simp
    try with_reducible rfl
  simp only [Act.put, List.setIfInBounds_toArray, List.set_cons_succ, List.set_cons_zero]
  refine' wpAnyH_take (i := 13) ?h1x13ux0x4x6 ?hsx13ux0x4x6 ?hfx13ux0x4x6 ?hrx13ux0x4x6 ?hQx13ux0x4x6 (Or.inr ⟨?hwx13ux0x4x6, rfl⟩) hS ?restx13ux0x4x6
  case h1x13ux0x4x6 => (simp only [List.getElem?_toArray, List.getElem?_cons_succ, List.getElem?_cons_zero]; rfl)
  case hsx13ux0x4x6 => kernel_rfl
  case hfx13ux0x4x6 => kernel_rfl
  case hrx13ux0x4x6 => kernel_rfl
  case hQx13ux0x4x6 => exact fun _ _ _ h => h
  case hwx13ux0x4x6 => rfl
  simp only [Act.put, List.setIfInBounds_toArray, List.set_cons_succ, List.set_cons_zero]
  refine' wpAnyH_take (i := 14) ?h1x14ux0x4x6 ?hsx14ux0x4x6 ?hfx14ux0x4x6 ?hrx14ux0x4x6 ?hQx14ux0x4x6 (Or.inr ⟨?hwx14ux0x4x6, rfl⟩) hS ?restx14ux0x4x6
  case h1x14ux0x4x6 => (simp only [List.getElem?_toArray, List.getElem?_cons_succ, List.getElem?_cons_zero]; rfl)
  case hsx14ux0x4x6 => kernel_rfl
  case hfx14ux0x4x6 => kernel_rfl
  case hrx14ux0x4x6 => kernel_rfl
  case hQx14ux0x4x6 => exact fun _ _ _ h => h
  case hwx14ux0x4x6 => rfl
  simp only [Act.put, List.setIfInBounds_toArray, List.set_cons_succ, List.set_cons_zero]
  refine' wpAnyH_take (i := 15) ?h1x15ux0x4x6 ?hsx15ux0x4x6 ?hfx15ux0x4x6 ?hrx15ux0x4x6 ?hQx15ux0x4x6 (Or.inr ⟨?hwx15ux0x4x6, rfl⟩) hS ?restx15ux0x4x6
  case h1x15ux0x4x6 => (simp only [List.getElem?_toArray, List.getElem?_cons_succ, List.getElem?_cons_zero]; rfl)
  case hsx15ux0x4x6 => kernel_rfl
  case hfx15ux0x4x6 => kernel_rfl
  case hrx15ux0x4x6 => kernel_rfl
  case hQx15ux0x4x6 => exact fun _ _ _ h => h
  case hwx15ux0x4x6 => rfl
  simp only [Act.put, List.setIfInBounds_toArray, List.set_cons_succ, List.set_cons_zero]
  refine' wpAnyH_take (i := 16) ?h1x16ux0x4x6 ?hsx16ux0x4x6 ?hfx16ux0x4x6 ?hrx16ux0x4x6 ?hQx16ux0x4x6 (Or.inr ⟨?hwx16ux0x4x6, rfl⟩) hS ?restx16ux0x4x6
  case h1x16ux0x4x6 => (simp only [List.getElem?_toArray, List.getElem?_cons_succ, List.getElem?_cons_zero]; rfl)
  case hsx16ux0x4x6 => kernel_rfl
  case hfx16ux0x4x6 => kernel_rfl
  case hrx16ux0x4x6 => kernel_rfl
  case hQx16ux0x4x6 => exact fun _ _ _ h => h
  case hwx16ux0x4x6 => rfl
  simp only [Act.put, List.setIfInBounds_toArray, List.set_cons_succ, List.set_cons_zero]
  refine' wpAnyH_take (i := 17) ?h1x17ux0x4x6 ?hsx17ux0x4x6 ?hfx17ux0x4x6 ?hrx17ux0x4x6 ?hQx17ux0x4x6 (Or.inl ⟨?hwx17ux0x4x6, ?hyx17ux0x4x6⟩) hS ?restx17ux0x4x6
  case h1x17ux0x4x6 => (simp only [List.getElem?_toArray, List.getElem?_cons_succ, List.getElem?_cons_zero]; rfl)
  case hsx17ux0x4x6 => kernel_rfl
  case hfx17ux0x4x6 => kernel_rfl
  case hrx17ux0x4x6 => kernel_rfl
  case hQx17ux0x4x6 => exact fun _ _ _ h => h
  case hwx17ux0x4x6 => rfl
  case hyx17ux0x4x6 =>
    intro W hW
    go_simp
    try with_reducible rfl
  simp only [Act.put, List.setIfInBounds_toArray, List.set_cons_succ, List.set_cons_zero]
  refine' wpAnyH_take (i := 18) ?h1x18ux0x4x6 ?hsx18ux0x4x6 ?hfx18ux0x4x6 ?hrx18ux0x4x6 ?hQx18ux0x4x6 (Or.inl ⟨?hwx18ux0x4x6, ?hyx18ux0x4x6⟩) hS ?restx18ux0x4x6
  case h1x18ux0x4x6 => (simp only [List.getElem?_toArray, List.getElem?_cons_succ, List.getElem?_cons_zero]; rfl)
  case hsx18ux0x4x6 => kernel_rfl
  case hfx18ux0x4x6 => kernel_rfl
  case hrx18ux0x4x6 => kernel_rfl
  case hQx18ux0x4x6 => exact fun _ _ _ h => h
  case hwx18ux0x4x6 => rfl
  case hyx18ux0x4x6 =>
    intro W hW
    go_simp
    try with_reducible rfl
  simp only [Act.put, List.setIfInBounds_toArray, List.set_cons_succ, List.set_cons_zero]
  refine' wpAnyH_take (i := 19) ?h1x19ux0x4x6 ?hsx19ux0x4x6 ?hfx19ux0x4x6 ?hrx19ux0x4x6 ?hQx19ux0x4x6 (Or.inl ⟨?hwx19ux0x4x6, ?hyx19ux0x4x6⟩) hS ?restx19ux0x4x6
  case h1x19ux0x4x6 => (simp only [List.getElem?_toArray, List.getElem?_cons_succ, List.getElem?_cons_zero]; rfl)
  case hsx19ux0x4x6 => kernel_rfl
  case hfx19ux0x4x6 => kernel_rfl
  case hrx19ux0x4x6 => kernel_rfl
  case hQx19ux0x4x6 => exact fun _ _ _ h => h
  case hwx19ux0x4x6 => rfl
  case hyx19ux0x4x6 =>
    intro W hW
    go_simp
    try with_reducible rfl
  simp only [Act.put, List.setIfInBounds_toArray, List.set_cons_succ, List.set_cons_zero]
  refine wpAnyH_done (by kernel_rfl) ?_ _
  go_wp2_with fail
  go_ret
  exact ⟨rfl, B0.out⟩
set_option maxRecDepth 100000 in
set_option maxHeartbeats 16000000 in
theorem halves_od (A : Array Value) (n : NV) (w : World) (hv : ND w (.agg A) n) (hA : okA 0 A) (hg : greatB n = false) (hr : rightB n.leaf n.ks n.vs.length n.qs.length = true) (k0 l : Nat) (hk : halfN n = k0 + 1) (hlen : n.ks.length = k0 + 1 + l) (hc : k0 = l ∧ 0 < l) : Calls Try.prog 5 #[.agg A] w (AliveP w) := by
  obtain ⟨rfl, hp⟩ := hc
  have hz := z26
  obtain ⟨Z, hZ⟩ : ∃ Z : Array Value, Z = #[.bool false, .slice none 0 0, .slice none 0 0, .slice none 0 0] := ⟨_, rfl⟩
  rw [← hZ] at hz
  have Z4 : Hid (Z.size = 4) := by show _ = _; rw [hZ]; rfl
  clear hZ
  have IA := Lib.hid hA.info
  have hs := great_small hg
  have GT : Hid (∀ v W, ND W v n → Calls Try.prog 7 #[v] W fun e w' => e = .returned (.bool false) ∧ Below W.heap.size W w') := fun v W h => by have := great v n W h; rw [hg] at this; exact this
  have RT : Hid (∀ v W, ND W v n → Calls Try.prog 12 #[v] W fun e w' => e = .returned (.bool true) ∧ Below W.heap.size W w') := fun v W h => by have := rightN v n W h; rw [hr] at this; exact this
  have AL := Lib.hid alive8
  obtain ⟨na, hna⟩ : ∃ na : NV, na = ⟨n.leaf, n.ks.take (halfN n), n.vs.take (halfN n), n.qs.take (halfN n)⟩ := ⟨_, rfl⟩
  obtain ⟨nb, hnb⟩ : ∃ nb : NV, nb = ⟨n.leaf, n.ks.drop (halfN n), n.vs.drop (halfN n), n.qs.drop (halfN n)⟩ := ⟨_, rfl⟩
  have HV : Hid (∀ W, ND W (.agg A) n → Calls Try.prog 20 #[.agg A] W fun e w' => ∃ XA XB, e = .returned (.tuple #[.agg XA, .agg XB]) ∧ ND w' (.agg XA) na ∧ ND w' (.agg XB) nb ∧ okA W.heap.size XA ∧ okA W.heap.size XB ∧ Below W.heap.size W w') := fun W h => by
    have := halve A n W h hA hs (right_parts hr).1
    unfold HalfP at this
    rw [half_a hs, half_b n, ← hna, ← hnb] at this
    exact this
  have JN : Hid (∀ XA XB W, ND W (.agg XA) na → ND W (.agg XB) nb → okA 0 XA → okA 0 XB → Calls Try.prog 21 #[.agg XA, .agg XB] W (NewN W n)) := fun XA XB W a b oa ob => by
    obtain ⟨e1, e2⟩ := half_whole hr
    have s1 : small na := by rw [hna]; exact ⟨Nat.le_trans (List.length_take_le' _ _) hs.1, Nat.le_trans (List.length_take_le' _ _) hs.2.1, Nat.le_trans (List.length_take_le' _ _) hs.2.2⟩
    have s2 : small nb := by rw [hnb]; exact ⟨by show (n.ks.drop _).length ≤ 300; rw [List.length_drop]; have := hs.1; omega, by show (n.vs.drop _).length ≤ 300; rw [List.length_drop]; have := hs.2.1; omega, by show (n.qs.drop _).length ≤ 300; rw [List.length_drop]; have := hs.2.2; omega⟩
    have := join XA XB na nb W a oa s1 (by rw [hna]; exact e1) b ob s2 (by rw [hnb]; exact e2)
    rw [show joinN na nb = n by rw [hna, hnb]; exact half_j n] at this
    exact this
  have SM : Hid (∀ X W, ND W (.agg X) n → ND W (.agg A) n → Calls Try.prog 18 #[.agg X, .agg A] W fun e w' => e = .returned (.bool true) ∧ Below W.heap.size W w') := fun X W h k => by
    have := same _ _ n n W h k
    rw [show sameB n n = true by simp [sameB]] at this
    exact this
  have LK : Hid (na.ks.length = k0 + 1) := by show _ = _; rw [hna]; show (n.ks.take _).length = _; rw [List.length_take]; omega
  have LL : Hid (nb.ks.length = k0) := by show _ = _; rw [hnb]; show (n.ks.drop _).length = _; rw [List.length_drop]; omega
  have ORD : Hid (∀ a b, 0 < k0 → na.ks.getD k0 0 = a → nb.ks.getD 0 0 = b → a < b) := fun a b h0 ha hb => by
    have e1 : na.ks.getD k0 0 = n.ks.getD k0 0 := by rw [hna]; simp [List.getD, List.getElem?_take_of_lt (show k0 < halfN n by omega)]
    have e2 : nb.ks.getD 0 0 = n.ks.getD (k0 + 1) 0 := by rw [hnb]; simp [List.getD, List.getElem?_drop, hk]
    rw [← ha, ← hb, e1, e2]
    exact rises_le (right_parts hr).2.2.1 (by omega) (by omega)
  have k300 : (k0 : Int) + 1 ≤ 300 := by have := hs.1; omega
  have l300 : (k0 : Int) ≤ 300 := by have := hs.1; omega
  obtain ⟨W0, hW0⟩ : ∃ W0, W0 = w.alloc (.cells A 26) := ⟨_, rfl⟩
  have hb : Below w.heap.size w W0 := by rw [hW0]; exact (Below.refl _ _).alloc (Nat.le_refl _) _
  have B0 := Lib.hid hb
  have GR : Hid (W0.heap[w.heap.size]? = some (.cells A 26 (0, 0))) := by show _ = _; rw [hW0]; exact heap_alloc_new w _
  have NR := Lib.hid (hv.below hb)
  have HW0 := Lib.hid hW0
  clear hW0 hb hv hA hg hr hs hna hnb hk hlen
  go_enter Try.func5, Try.ntmps5
  go_upto_region 1 with (fail)
  rw [← HW0.out]
  go_wp2_with (refine wpList_load_row rfl 26 (.tmp 1) rfl w.heap.size rfl 26 A (0, 0) _ GR.out Try.underlying26 rfl IA.out ?_)
  refine (GT.out _ _ NR.out).mono ?_
  rintro e w1 ⟨rfl, hb⟩
  have B0 := Lib.hid (B0.out.trans (hb.mono B0.out.size))
  have GR := Lib.hid ((hb.block _ (blk_lt GR.out)).trans GR.out)
  have NR := Lib.hid (NR.out.below hb)
  clear hb
  go_wp2_with (refine wpList_load_met rfl 26 (.tmp 1) rfl w.heap.size rfl 26 A (0, 0) _ GR.out Try.underlying26 ⟨_, rfl⟩ IA.out ?_)
  refine (RT.out _ _ NR.out).mono ?_
  rintro e w2 ⟨rfl, hb⟩
  have B0 := Lib.hid (B0.out.trans (hb.mono B0.out.size))
  have GR := Lib.hid ((hb.block _ (blk_lt GR.out)).trans GR.out)
  have NR := Lib.hid (NR.out.below hb)
  clear hb
  go_wp2_with (refine wpList_load_row rfl 26 (.tmp 1) rfl w.heap.size rfl 26 A (0, 0) _ GR.out Try.underlying26 rfl IA.out ?_)
  refine (HV.out _ NR.out).mono ?_
  rintro e w3 ⟨XA, XB, rfl, ha, hb2, oka, okb, hb⟩
  have B0 := Lib.hid (B0.out.trans (hb.mono B0.out.size))
  have GR := Lib.hid ((hb.block _ (blk_lt GR.out)).trans GR.out)
  have NR := Lib.hid (NR.out.below hb)
  clear hb
  obtain ⟨xa, ca, a1, kA⟩ := ha.keys
  obtain ⟨xb, cb, b1, kB⟩ := hb2.keys
  rw [LK.out] at a1 kA
  rw [LL.out] at b1 kB
  obtain ⟨ba, oa, rfl, hla, hca⟩ := kA.at k0 (by rw [LK.out]; omega)
  obtain ⟨bb, ob, rfl, hlb, hcb⟩ := kB.at 0 (by rw [LL.out]; omega)
  obtain ⟨av, hav⟩ : ∃ av, av = na.ks.getD k0 0 := ⟨_, rfl⟩
  obtain ⟨bv, hbv⟩ : ∃ bv, bv = nb.ks.getD 0 0 := ⟨_, rfl⟩
  have hord := ORD.out av bv (by omega) hav.symm hbv.symm
  rw [← hav] at hca
  rw [← hbv, Nat.add_zero] at hcb
  have hnge : ¬ (bv ≤ av) := by omega
  have CAw : CellF w3 ba (oa + k0) (.int .u64 av) := ⟨hla, hca⟩
  have CBw : CellF w3 bb ob (.int .u64 bv) := ⟨hlb, hcb⟩
  clear hla hca hlb hcb hav hbv
  have A1 := Lib.hid a1
  have C1 := Lib.hid b1
  have OKA := Lib.hid (oka.le (Nat.zero_le _))
  have OKB := Lib.hid (okb.le (Nat.zero_le _))
  obtain ⟨W5, hW5⟩ : ∃ W5, W5 = (((w3.alloc (.cells Z 26)).alloc (.cells Z 26)).setRow w3.heap.size XA).setRow (w3.heap.size + 1) XB := ⟨_, rfl⟩
  have b0 : Below w3.heap.size w3 (w3.alloc (.cells Z 26)) := (Below.refl _ _).alloc (Nat.le_refl _) _
  have b2 : Below w3.heap.size w3 ((w3.alloc (.cells Z 26)).alloc (.cells Z 26)) := b0.alloc (by simp) _
  have G3 : Hid (((w3.alloc (.cells Z 26)).alloc (.cells Z 26)).heap[w3.heap.size]? = some (.cells Z 26 (0, 0))) := by show _ = _; rw [Below.heap_alloc _ _ _ (by simp)]; exact heap_alloc_new w3 _
  have G4 : Hid ((((w3.alloc (.cells Z 26)).alloc (.cells Z 26)).setRow w3.heap.size XA).heap[w3.heap.size + 1]? = some (.cells Z 26 (0, 0))) := by
    show _ = _
    rw [setRow_other _ _ _ _ (by omega)]
    have := heap_alloc_new (w3.alloc (.cells Z 26)) (.cells Z 26)
    simpa using this
  have hb : Below w3.heap.size w3 W5 := by rw [hW5]; exact (b2.trans (below_row _ XA (Nat.le_refl _))).trans (below_row _ XB (by omega))
  have HA : Hid (W5.heap[w3.heap.size]? = some (.cells XA 26 (0, 0))) := by
    show _ = _
    rw [hW5, setRow_other _ _ _ _ (by omega)]
    exact setRow_heap _ _ _ XA 26 _ G3.out
  have HB : Hid (W5.heap[w3.heap.size + 1]? = some (.cells XB 26 (0, 0))) := by
    show _ = _
    rw [hW5]
    exact setRow_heap _ _ _ XB 26 _ G4.out
  have B0 := Lib.hid (B0.out.trans (hb.mono B0.out.size))
  have GR := Lib.hid ((hb.block _ (blk_lt GR.out)).trans GR.out)
  have NR := Lib.hid (NR.out.below hb)
  have CA := Lib.hid (CAw.below hb)
  have CB := Lib.hid (CBw.below hb)
  clear CAw CBw
  have NA := Lib.hid (ha.below hb)
  have NB := Lib.hid (hb2.below hb)
  have KA := Lib.hid (kA.below hb)
  have KB := Lib.hid (kB.below hb)
  have HW5 := Lib.hid hW5
  have S3 : Hid (Z.size = XA.size) := by show _ = _; rw [Z4.out, OKA.out.four]
  have S4 : Hid (Z.size = XB.size) := by show _ = _; rw [Z4.out, OKB.out.four]
  have I3 := Lib.hid OKA.out.info
  have I4 := Lib.hid OKB.out.info
  have O3 := Lib.hid OKA.out.one
  have O4 := Lib.hid OKB.out.one
  clear hW5 b0 b2 ha hb2 hb oka okb a1 b1 kA kB
  go_upto_region 4 with (first
    | (refine wpList_store_row rfl 26 (.tmp 3) (.tmp 18) rfl w3.heap.size XA rfl rfl 26 Z G3.out I3.out S3.out O3.out ?_)
    | (refine wpList_store_row rfl 26 (.tmp 4) (.tmp 19) rfl (w3.heap.size + 1) XB rfl rfl 26 Z G4.out I4.out S4.out O4.out ?_))
  rw [← HW5.out]
  try simp only [Act.put]
  generalize hga : w3.heap.size = ga at HA HB ⊢
  clear HW5 G3 G4 hga hz
  have hk1 : (((k0 : Int) + 1) == 0) = false := by simp; omega
  have hlt1 : (k0 : Int) < (k0 : Int) + 1 := by omega
  have hw1 : IntKind.i64.wrap (k0 : Int) = (k0 : Int) := IntWalk.i64_in _ (by omega)
  have hw2 : IntKind.i64.wrap ((k0 : Int) + 1) = (k0 : Int) + 1 := IntWalk.i64_in _ (by omega)
  have hp1 : (0 : Int) < (k0 : Int) := by omega
  have he1 : (((k0 : Int) + 1) == (k0 : Int)) = false := by simp; omega
  go_wp2_with fail
  have HA0 := HA
  have HB0 := HB
  have CA0 := CA
  have CB0 := CB
  refine wp_region_held_drew (S := fun W => Below W5.heap.size W5 W) (by kernel_rfl) ((Below.refl _ _).drew) (fun hS => ?_)
  have hb0 : Below W5.heap.size W5 W5.drew := (Below.refl _ _).drew
  have qGR := (hb0.block _ (blk_lt GR.out)).trans GR.out
  have qNR := NR.out.below hb0
  have qHA := (hb0.block _ (blk_lt HA.out)).trans HA.out
  have qHB := (hb0.block _ (blk_lt HB.out)).trans HB.out
  have qNA := NA.out.below hb0
  have qNB := NB.out.below hb0
  have qB0 := B0.out.trans (hb0.mono B0.out.size)
  have qCA := CA.out.below hb0
  have qCB := CB.out.below hb0
  clear hb0 GR NR HA HB NA NB B0 CA CB
  generalize W5.drew = Wps at hS qGR qNR qHA qHB qNA qNB qB0 qCA qCB ⊢
  have GR := Lib.hid qGR
  have NR := Lib.hid qNR
  have HA := Lib.hid qHA
  have HB := Lib.hid qHB
  have NA := Lib.hid qNA
  have NB := Lib.hid qNB
  have B0 := Lib.hid qB0
  have CA := Lib.hid qCA
  have CB := Lib.hid qCB
  clear qGR qNR qHA qHB qNA qNB qB0 qCA qCB
  refine' wpAnyH_take (i := 0) ?h1x0p ?hsx0p ?hfx0p ?hrx0p ?hQx0p (Or.inl ⟨?hwx0p, ?hyx0p⟩) hS ?restx0p
  case h1x0p => (simp only [List.getElem?_toArray, List.getElem?_cons_zero]; rfl)
  case hsx0p => kernel_rfl
  case hfx0p => kernel_rfl
  case hrx0p => kernel_rfl
  case hQx0p => exact fun _ _ _ h => h
  case hwx0p => rfl
  case hyx0p =>
    intro W hW
    go_simp
    try with_reducible rfl
  simp only [Act.put, List.setIfInBounds_toArray, List.set_cons_succ, List.set_cons_zero]
  refine' wpAnyH_take (i := 3) ?h1x3p ?hsx3p ?hfx3p ?hrx3p ?hQx3p (Or.inl ⟨?hwx3p, ?hyx3p⟩) hS ?restx3p
  case h1x3p => (simp only [List.getElem?_toArray, List.getElem?_cons_succ, List.getElem?_cons_zero]; rfl)
  case hsx3p => kernel_rfl
  case hfx3p => kernel_rfl
  case hrx3p => kernel_rfl
  case hQx3p => exact fun _ _ _ h => h
  case hwx3p => rfl
  case hyx3p =>
    intro W hW
    go_simp
    try with_reducible rfl
  simp only [Act.put, List.setIfInBounds_toArray, List.set_cons_succ, List.set_cons_zero]
  refine' wpAnyH_take (i := 1) ?h1x1p ?hsx1p ?hfx1p ?hrx1p ?hQx1p (Or.inl ⟨?hwx1p, ?hyx1p⟩) hS ?restx1p
  case h1x1p => (simp only [List.getElem?_toArray, List.getElem?_cons_succ, List.getElem?_cons_zero]; rfl)
  case hsx1p => kernel_rfl
  case hfx1p => kernel_rfl
  case hrx1p => kernel_rfl
  case hQx1p => exact fun _ _ _ h => h
  case hwx1p => rfl
  case hyx1p =>
    intro W hW
    have ck := (hW.cell (p := ⟨ga, 1, none⟩) (blk_lt HA0.out)).trans ((cell_row HA0.out 1).trans A1.out)
    go_simp
    try with_reducible rfl
  simp only [Act.put, List.setIfInBounds_toArray, List.set_cons_succ, List.set_cons_zero]
  refine' wpAnyH_take (i := 4) ?h1x4p ?hsx4p ?hfx4p ?hrx4p ?hQx4p (Or.inl ⟨?hwx4p, ?hyx4p⟩) hS ?restx4p
  case h1x4p => (simp only [List.getElem?_toArray, List.getElem?_cons_succ, List.getElem?_cons_zero]; rfl)
  case hsx4p => kernel_rfl
  case hfx4p => kernel_rfl
  case hrx4p => kernel_rfl
  case hQx4p => exact fun _ _ _ h => h
  case hwx4p => rfl
  case hyx4p =>
    intro W hW
    have ck := (hW.cell (p := ⟨ga + 1, 1, none⟩) (blk_lt HB0.out)).trans ((cell_row HB0.out 1).trans C1.out)
    go_simp
    try with_reducible rfl
  simp only [Act.put, List.setIfInBounds_toArray, List.set_cons_succ, List.set_cons_zero]
  refine' wpAnyH_take (i := 2) ?h1x2p ?hsx2p ?hfx2p ?hrx2p ?hQx2p (Or.inl ⟨?hwx2p, ?hyx2p⟩) hS ?restx2p
  case h1x2p => (simp only [List.getElem?_toArray, List.getElem?_cons_succ, List.getElem?_cons_zero]; rfl)
  case hsx2p => kernel_rfl
  case hfx2p => kernel_rfl
  case hrx2p => kernel_rfl
  case hQx2p => exact fun _ _ _ h => h
  case hwx2p => rfl
  case hyx2p =>
    intro W hW
    go_simp
    try with_reducible rfl
  simp only [Act.put, List.setIfInBounds_toArray, List.set_cons_succ, List.set_cons_zero]
  refine' wpAnyH_take (i := 5) ?h1x5p ?hsx5p ?hfx5p ?hrx5p ?hQx5p (Or.inl ⟨?hwx5p, ?hyx5p⟩) hS ?restx5p
  case h1x5p => (simp only [List.getElem?_toArray, List.getElem?_cons_succ, List.getElem?_cons_zero]; rfl)
  case hsx5p => kernel_rfl
  case hfx5p => kernel_rfl
  case hrx5p => kernel_rfl
  case hQx5p => exact fun _ _ _ h => h
  case hwx5p => rfl
  case hyx5p =>
    intro W hW
    go_simp
    try with_reducible rfl
  simp only [Act.put, List.setIfInBounds_toArray, List.set_cons_succ, List.set_cons_zero]
  refine' wpAnyH_take (i := 6) ?h1x6p ?hsx6p ?hfx6p ?hrx6p ?hQx6p (Or.inl ⟨?hwx6p, ?hyx6p⟩) hS ?restx6p
  case h1x6p => (simp only [List.getElem?_toArray, List.getElem?_cons_succ, List.getElem?_cons_zero]; rfl)
  case hsx6p => kernel_rfl
  case hfx6p => kernel_rfl
  case hrx6p => kernel_rfl
  case hQx6p => exact fun _ _ _ h => h
  case hwx6p => rfl
  case hyx6p =>
    intro W hW
    go_simp
    try with_reducible rfl
  simp only [Act.put, List.setIfInBounds_toArray, List.set_cons_succ, List.set_cons_zero]
  refine' wpAnyH_take (i := 7) ?h1x7p ?hsx7p ?hfx7p ?hrx7p ?hQx7p (Or.inl ⟨?hwx7p, ?hyx7p⟩) hS ?restx7p
  case h1x7p => (simp only [List.getElem?_toArray, List.getElem?_cons_succ, List.getElem?_cons_zero]; rfl)
  case hsx7p => kernel_rfl
  case hfx7p => kernel_rfl
  case hrx7p => kernel_rfl
  case hQx7p => exact fun _ _ _ h => h
  case hwx7p => rfl
  case hyx7p =>
    intro W hW
    go_simp
    try with_reducible rfl
  simp only [Act.put, List.setIfInBounds_toArray, List.set_cons_succ, List.set_cons_zero]
  refine wpAnyH_done (by kernel_rfl) ?_ _
  go_wp2_with fail
  have HA0 := HA
  have HB0 := HB
  have CA0 := CA
  have CB0 := CB
  refine wp_region_held_drew (S := fun W => Below Wps.heap.size Wps W) (by kernel_rfl) ((Below.refl _ _).drew) (fun hS => ?_)
  have hb0 : Below Wps.heap.size Wps Wps.drew := (Below.refl _ _).drew
  have qGR := (hb0.block _ (blk_lt GR.out)).trans GR.out
  have qNR := NR.out.below hb0
  have qHA := (hb0.block _ (blk_lt HA.out)).trans HA.out
  have qHB := (hb0.block _ (blk_lt HB.out)).trans HB.out
  have qNA := NA.out.below hb0
  have qNB := NB.out.below hb0
  have qB0 := B0.out.trans (hb0.mono B0.out.size)
  have qCA := CA.out.below hb0
  have qCB := CB.out.below hb0
  clear hb0 GR NR HA HB NA NB B0 CA CB
  generalize Wps.drew = Wqs at hS qGR qNR qHA qHB qNA qNB qB0 qCA qCB ⊢
  have GR := Lib.hid qGR
  have NR := Lib.hid qNR
  have HA := Lib.hid qHA
  have HB := Lib.hid qHB
  have NA := Lib.hid qNA
  have NB := Lib.hid qNB
  have B0 := Lib.hid qB0
  have CA := Lib.hid qCA
  have CB := Lib.hid qCB
  clear qGR qNR qHA qHB qNA qNB qB0 qCA qCB
  refine' wpAnyH_take (i := 0) ?h1x0q ?hsx0q ?hfx0q ?hrx0q ?hQx0q (Or.inl ⟨?hwx0q, ?hyx0q⟩) hS ?restx0q
  case h1x0q => (simp only [List.getElem?_toArray, List.getElem?_cons_zero]; rfl)
  case hsx0q => kernel_rfl
  case hfx0q => kernel_rfl
  case hrx0q => kernel_rfl
  case hQx0q => exact fun _ _ _ h => h
  case hwx0q => rfl
  case hyx0q =>
    intro W hW
    go_simp
    try with_reducible rfl
  simp only [Act.put, List.setIfInBounds_toArray, List.set_cons_succ, List.set_cons_zero]
  refine' wpAnyH_take (i := 1) ?h1x1q ?hsx1q ?hfx1q ?hrx1q ?hQx1q (Or.inl ⟨?hwx1q, ?hyx1q⟩) hS ?restx1q
  case h1x1q => (simp only [List.getElem?_toArray, List.getElem?_cons_succ, List.getElem?_cons_zero]; rfl)
  case hsx1q => kernel_rfl
  case hfx1q => kernel_rfl
  case hrx1q => kernel_rfl
  case hQx1q => exact fun _ _ _ h => h
  case hwx1q => rfl
  case hyx1q =>
    intro W hW
    go_simp
    try with_reducible rfl
  simp only [Act.put, List.setIfInBounds_toArray, List.set_cons_succ, List.set_cons_zero]
  refine' wpAnyH_take (i := 2) ?h1x2q ?hsx2q ?hfx2q ?hrx2q ?hQx2q (Or.inl ⟨?hwx2q, ?hyx2q⟩) hS ?restx2q
  case h1x2q => (simp only [List.getElem?_toArray, List.getElem?_cons_succ, List.getElem?_cons_zero]; rfl)
  case hsx2q => kernel_rfl
  case hfx2q => kernel_rfl
  case hrx2q => kernel_rfl
  case hQx2q => exact fun _ _ _ h => h
  case hwx2q => rfl
  case hyx2q =>
    intro W hW
    go_simp
    try with_reducible rfl
  simp only [Act.put, List.setIfInBounds_toArray, List.set_cons_succ, List.set_cons_zero]
  refine' wpAnyH_take (i := 3) ?h1x3q ?hsx3q ?hfx3q ?hrx3q ?hQx3q (Or.inl ⟨?hwx3q, ?hyx3q⟩) hS ?restx3q
  case h1x3q => (simp only [List.getElem?_toArray, List.getElem?_cons_succ, List.getElem?_cons_zero]; rfl)
  case hsx3q => kernel_rfl
  case hfx3q => kernel_rfl
  case hrx3q => kernel_rfl
  case hQx3q => exact fun _ _ _ h => h
  case hwx3q => rfl
  case hyx3q =>
    intro W hW
    go_simp
    try with_reducible rfl
  simp only [Act.put, List.setIfInBounds_toArray, List.set_cons_succ, List.set_cons_zero]
  refine' wpAnyH_take (i := 4) ?h1x4q ?hsx4q ?hfx4q ?hrx4q ?hQx4q (Or.inl ⟨?hwx4q, ?hyx4q⟩) hS ?restx4q
  case h1x4q => (simp only [List.getElem?_toArray, List.getElem?_cons_succ, List.getElem?_cons_zero]; rfl)
  case hsx4q => kernel_rfl
  case hfx4q => kernel_rfl
  case hrx4q => kernel_rfl
  case hQx4q => exact fun _ _ _ h => h
  case hwx4q => rfl
  case hyx4q =>
    intro W hW
    go_simp
    try with_reducible rfl
  simp only [Act.put, List.setIfInBounds_toArray, List.set_cons_succ, List.set_cons_zero]
  refine' wpAnyH_take (i := 5) ?h1x5q ?hsx5q ?hfx5q ?hrx5q ?hQx5q (Or.inl ⟨?hwx5q, ?hyx5q⟩) hS ?restx5q
  case h1x5q => (simp only [List.getElem?_toArray, List.getElem?_cons_succ, List.getElem?_cons_zero]; rfl)
  case hsx5q => kernel_rfl
  case hfx5q => kernel_rfl
  case hrx5q => kernel_rfl
  case hQx5q => exact fun _ _ _ h => h
  case hwx5q => rfl
  case hyx5q =>
    intro W hW
    go_simp
    try with_reducible rfl
  simp only [Act.put, List.setIfInBounds_toArray, List.set_cons_succ, List.set_cons_zero]
  refine' wpAnyH_take (i := 6) ?h1x6q ?hsx6q ?hfx6q ?hrx6q ?hQx6q (Or.inl ⟨?hwx6q, ?hyx6q⟩) hS ?restx6q
  case h1x6q => (simp only [List.getElem?_toArray, List.getElem?_cons_succ, List.getElem?_cons_zero]; rfl)
  case hsx6q => kernel_rfl
  case hfx6q => kernel_rfl
  case hrx6q => kernel_rfl
  case hQx6q => exact fun _ _ _ h => h
  case hwx6q => rfl
  case hyx6q =>
    intro W hW
    go_simp
    try with_reducible rfl
  simp only [Act.put, List.setIfInBounds_toArray, List.set_cons_succ, List.set_cons_zero]
  refine' wpAnyH_take (i := 8) ?h1x8q ?hsx8q ?hfx8q ?hrx8q ?hQx8q (Or.inl ⟨?hwx8q, ?hyx8q⟩) hS ?restx8q
  case h1x8q => (simp only [List.getElem?_toArray, List.getElem?_cons_succ, List.getElem?_cons_zero]; rfl)
  case hsx8q => kernel_rfl
  case hfx8q => kernel_rfl
  case hrx8q => kernel_rfl
  case hQx8q => exact fun _ _ _ h => h
  case hwx8q => rfl
  case hyx8q =>
    intro W hW
    go_simp
    try with_reducible rfl
  simp only [Act.put, List.setIfInBounds_toArray, List.set_cons_succ, List.set_cons_zero]
  refine' wpAnyH_take (i := 12) ?h1x12q ?hsx12q ?hfx12q ?hrx12q ?hQx12q (Or.inl ⟨?hwx12q, ?hyx12q⟩) hS ?restx12q
  case h1x12q => (simp only [List.getElem?_toArray, List.getElem?_cons_succ, List.getElem?_cons_zero]; rfl)
  case hsx12q => kernel_rfl
  case hfx12q => kernel_rfl
  case hrx12q => kernel_rfl
  case hQx12q => exact fun _ _ _ h => h
  case hwx12q => rfl
  case hyx12q =>
    intro W hW
    go_simp
    try with_reducible rfl
  simp only [Act.put, List.setIfInBounds_toArray, List.set_cons_succ, List.set_cons_zero]
  refine' wpAnyH_take (i := 7) ?h1x7q ?hsx7q ?hfx7q ?hrx7q ?hQx7q (Or.inl ⟨?hwx7q, ?hyx7q⟩) hS ?restx7q
  case h1x7q => (simp only [List.getElem?_toArray, List.getElem?_cons_succ, List.getElem?_cons_zero]; rfl)
  case hsx7q => kernel_rfl
  case hfx7q => kernel_rfl
  case hrx7q => kernel_rfl
  case hQx7q => exact fun _ _ _ h => h
  case hwx7q => rfl
  case hyx7q =>
    intro W hW
    have ck := (hW.cell (p := ⟨ga, 1, none⟩) (blk_lt HA0.out)).trans ((cell_row HA0.out 1).trans A1.out)
    go_simp
    try with_reducible rfl
  simp only [Act.put, List.setIfInBounds_toArray, List.set_cons_succ, List.set_cons_zero]
  refine' wpAnyH_take (i := 9) ?h1x9q ?hsx9q ?hfx9q ?hrx9q ?hQx9q (Or.inl ⟨?hwx9q, ?hyx9q⟩) hS ?restx9q
  case h1x9q => (simp only [List.getElem?_toArray, List.getElem?_cons_succ, List.getElem?_cons_zero]; rfl)
  case hsx9q => kernel_rfl
  case hfx9q => kernel_rfl
  case hrx9q => kernel_rfl
  case hQx9q => exact fun _ _ _ h => h
  case hwx9q => rfl
  case hyx9q =>
    intro W hW
    go_simp
    try with_reducible rfl
  simp only [Act.put, List.setIfInBounds_toArray, List.set_cons_succ, List.set_cons_zero]
  refine' wpAnyH_take (i := 13) ?h1x13q ?hsx13q ?hfx13q ?hrx13q ?hQx13q (Or.inl ⟨?hwx13q, ?hyx13q⟩) hS ?restx13q
  case h1x13q => (simp only [List.getElem?_toArray, List.getElem?_cons_succ, List.getElem?_cons_zero]; rfl)
  case hsx13q => kernel_rfl
  case hfx13q => kernel_rfl
  case hrx13q => kernel_rfl
  case hQx13q => exact fun _ _ _ h => h
  case hwx13q => rfl
  case hyx13q =>
    intro W hW
    have ck := (hW.cell (p := ⟨ga + 1, 1, none⟩) (blk_lt HB0.out)).trans ((cell_row HB0.out 1).trans C1.out)
    go_simp
    try with_reducible rfl
  simp only [Act.put, List.setIfInBounds_toArray, List.set_cons_succ, List.set_cons_zero]
  refine' wpAnyH_take (i := 10) ?h1x10q ?hsx10q ?hfx10q ?hrx10q ?hQx10q (Or.inl ⟨?hwx10q, ?hyx10q⟩) hS ?restx10q
  case h1x10q => (simp only [List.getElem?_toArray, List.getElem?_cons_succ, List.getElem?_cons_zero]; rfl)
  case hsx10q => kernel_rfl
  case hfx10q => kernel_rfl
  case hrx10q => kernel_rfl
  case hQx10q => exact fun _ _ _ h => h
  case hwx10q => rfl
  case hyx10q =>
    intro W hW
    go_simp
    try with_reducible rfl
  simp only [Act.put, List.setIfInBounds_toArray, List.set_cons_succ, List.set_cons_zero]
  refine' wpAnyH_take (i := 14) ?h1x14q ?hsx14q ?hfx14q ?hrx14q ?hQx14q (Or.inl ⟨?hwx14q, ?hyx14q⟩) hS ?restx14q
  case h1x14q => (simp only [List.getElem?_toArray, List.getElem?_cons_succ, List.getElem?_cons_zero]; rfl)
  case hsx14q => kernel_rfl
  case hfx14q => kernel_rfl
  case hrx14q => kernel_rfl
  case hQx14q => exact fun _ _ _ h => h
  case hwx14q => rfl
  case hyx14q =>
    intro W hW
    go_simp
    try with_reducible rfl
  simp only [Act.put, List.setIfInBounds_toArray, List.set_cons_succ, List.set_cons_zero]
  refine' wpAnyH_take (i := 11) ?h1x11q ?hsx11q ?hfx11q ?hrx11q ?hQx11q (Or.inl ⟨?hwx11q, ?hyx11q⟩) hS ?restx11q
  case h1x11q => (simp only [List.getElem?_toArray, List.getElem?_cons_succ, List.getElem?_cons_zero]; rfl)
  case hsx11q => kernel_rfl
  case hfx11q => kernel_rfl
  case hrx11q => kernel_rfl
  case hQx11q => exact fun _ _ _ h => h
  case hwx11q => rfl
  case hyx11q =>
    intro W hW
    have ck := (CA0.out.below hW).2
    go_simp
    try with_reducible rfl
  simp only [Act.put, List.setIfInBounds_toArray, List.set_cons_succ, List.set_cons_zero]
  refine' wpAnyH_take (i := 15) ?h1x15q ?hsx15q ?hfx15q ?hrx15q ?hQx15q (Or.inl ⟨?hwx15q, ?hyx15q⟩) hS ?restx15q
  case h1x15q => (simp only [List.getElem?_toArray, List.getElem?_cons_succ, List.getElem?_cons_zero]; rfl)
  case hsx15q => kernel_rfl
  case hfx15q => kernel_rfl
  case hrx15q => kernel_rfl
  case hQx15q => exact fun _ _ _ h => h
  case hwx15q => rfl
  case hyx15q =>
    intro W hW
    have ck := (CB0.out.below hW).2
    go_simp
    try with_reducible rfl
  simp only [Act.put, List.setIfInBounds_toArray, List.set_cons_succ, List.set_cons_zero]
  refine' wpAnyH_take (i := 16) ?h1x16q ?hsx16q ?hfx16q ?hrx16q ?hQx16q (Or.inl ⟨?hwx16q, ?hyx16q⟩) hS ?restx16q
  case h1x16q => (simp only [List.getElem?_toArray, List.getElem?_cons_succ, List.getElem?_cons_zero]; rfl)
  case hsx16q => kernel_rfl
  case hfx16q => kernel_rfl
  case hrx16q => kernel_rfl
  case hQx16q => exact fun _ _ _ h => h
  case hwx16q => rfl
  case hyx16q =>
    intro W hW
    go_simp
    try with_reducible rfl
  simp only [Act.put, List.setIfInBounds_toArray, List.set_cons_succ, List.set_cons_zero]
  refine' wpAnyH_take (i := 17) ?h1x17q ?hsx17q ?hfx17q ?hrx17q ?hQx17q (Or.inl ⟨?hwx17q, ?hyx17q⟩) hS ?restx17q
  case h1x17q => (simp only [List.getElem?_toArray, List.getElem?_cons_succ, List.getElem?_cons_zero]; rfl)
  case hsx17q => kernel_rfl
  case hfx17q => kernel_rfl
  case hrx17q => kernel_rfl
  case hQx17q => exact fun _ _ _ h => h
  case hwx17q => rfl
  case hyx17q =>
    intro W hW
    go_simp
    try with_reducible rfl
  simp only [Act.put, List.setIfInBounds_toArray, List.set_cons_succ, List.set_cons_zero]
  refine' wpAnyH_take (i := 18) ?h1x18q ?hsx18q ?hfx18q ?hrx18q ?hQx18q (Or.inl ⟨?hwx18q, ?hyx18q⟩) hS ?restx18q
  case h1x18q => (simp only [List.getElem?_toArray, List.getElem?_cons_succ, List.getElem?_cons_zero]; rfl)
  case hsx18q => kernel_rfl
  case hfx18q => kernel_rfl
  case hrx18q => kernel_rfl
  case hQx18q => exact fun _ _ _ h => h
  case hwx18q => rfl
  case hyx18q =>
    intro W hW
    go_simp
    try with_reducible rfl
  simp only [Act.put, List.setIfInBounds_toArray, List.set_cons_succ, List.set_cons_zero]
  refine wpAnyH_done (by kernel_rfl) ?_ _
  go_wp2_with fail
  refine wp_region_held_drew (S := fun W => Below Wqs.heap.size Wqs W ∧ W.heap[w.heap.size]? = some (.cells A 26 (0, 0)) ∧ W.heap[ga]? = some (.cells XA 26 (0, 0)) ∧ W.heap[(ga + 1)]? = some (.cells XB 26 (0, 0))) (by kernel_rfl) (⟨(Below.refl _ _).drew, GR.out, HA.out, HB.out⟩) (fun hS => ?_)
  have hb0 : Below Wqs.heap.size Wqs Wqs.drew := (Below.refl _ _).drew
  have qGR := (hb0.block _ (blk_lt GR.out)).trans GR.out
  have qNR := NR.out.below hb0
  have qHA := (hb0.block _ (blk_lt HA.out)).trans HA.out
  have qHB := (hb0.block _ (blk_lt HB.out)).trans HB.out
  have qNA := NA.out.below hb0
  have qNB := NB.out.below hb0
  have qB0 := B0.out.trans (hb0.mono B0.out.size)
  have qCA := CA.out.below hb0
  have qCB := CB.out.below hb0
  clear hb0 GR NR HA HB NA NB B0 CA CB
  generalize Wqs.drew = Wus at hS qGR qNR qHA qHB qNA qNB qB0 qCA qCB ⊢
  have GR := Lib.hid qGR
  have NR := Lib.hid qNR
  have HA := Lib.hid qHA
  have HB := Lib.hid qHB
  have NA := Lib.hid qNA
  have NB := Lib.hid qNB
  have B0 := Lib.hid qB0
  have CA := Lib.hid qCA
  have CB := Lib.hid qCB
  clear qGR qNR qHA qHB qNA qNB qB0 qCA qCB
  refine wpAnyH_ready (rs := [0]) (by kernel_rfl) (by simp) ?_
  refine' (AllReadyH.cons ?hoc0u (fun K hK => ?stc0u) AllReadyH.nil)
  case hoc0u => (simp only [List.getElem?_toArray, List.getElem?_cons_zero]; rfl)
  go_simp
  refine (AL.out Wus).mono ?_
  rintro e Wux0 ⟨rfl, hb⟩
  have GR := Lib.hid ((hb.block _ (blk_lt GR.out)).trans GR.out)
  have NR := Lib.hid (NR.out.below hb)
  have HA := Lib.hid ((hb.block _ (blk_lt HA.out)).trans HA.out)
  have HB := Lib.hid ((hb.block _ (blk_lt HB.out)).trans HB.out)
  have NA := Lib.hid (NA.out.below hb)
  have NB := Lib.hid (NB.out.below hb)
  have B0 := Lib.hid (B0.out.trans (hb.mono B0.out.size))
  have CA := Lib.hid (CA.out.below hb)
  have CB := Lib.hid (CB.out.below hb)
  go_wp2_with fail
  refine hK.out _ _ (⟨hS.1.trans (hb.mono hS.1.size), (hb.block _ (blk_lt hS.2.1)).trans hS.2.1, (hb.block _ (blk_lt hS.2.2.1)).trans hS.2.2.1, (hb.block _ (blk_lt hS.2.2.2)).trans hS.2.2.2⟩) (fun hHeld => ?_)
  clear hK K
  try simp only [Act.put, List.setIfInBounds_toArray, List.set_cons_succ, List.set_cons_zero]
  clear hS
  have hS := hHeld
  clear hHeld
  clear hb
  refine' wpAnyH_take (i := 1) ?h1x1ux0 ?hsx1ux0 ?hfx1ux0 ?hrx1ux0 ?hQx1ux0 (Or.inl ⟨?hwx1ux0, ?hyx1ux0⟩) hS ?restx1ux0
  case h1x1ux0 => (simp only [List.getElem?_toArray, List.getElem?_cons_succ, List.getElem?_cons_zero]; rfl)
  case hsx1ux0 => kernel_rfl
  case hfx1ux0 => kernel_rfl
  case hrx1ux0 => kernel_rfl
  case hQx1ux0 => exact fun _ _ _ h => h
  case hwx1ux0 => rfl
  case hyx1ux0 =>
    intro W hW
    go_simp
    try with_reducible rfl
  simp only [Act.put, List.setIfInBounds_toArray, List.set_cons_succ, List.set_cons_zero]
  refine' wpAnyH_take (i := 2) ?h1x2ux0 ?hsx2ux0 ?hfx2ux0 ?hrx2ux0 ?hQx2ux0 (yieldsIf_load_at ?hwx2ux0 26 (.tmp 3) ?hopx2ux0 ga 0 rfl XA _ (fun W hW => range_row hW.2.2.1) Try.underlying26 rfl ?hix2ux0) hS ?restx2ux0
  case h1x2ux0 => (simp only [List.getElem?_toArray, List.getElem?_cons_succ, List.getElem?_cons_zero]; rfl)
  case hopx2ux0 => rfl
  case hsx2ux0 => kernel_rfl
  case hfx2ux0 => kernel_rfl
  case hrx2ux0 => kernel_rfl
  case hQx2ux0 => exact fun _ _ _ h => h
  case hwx2ux0 => rfl
  case hix2ux0 => exact I3.out
  simp only [Act.put, List.setIfInBounds_toArray, List.set_cons_succ, List.set_cons_zero]
  refine' wpAnyH_take (i := 3) ?h1x3ux0 ?hsx3ux0 ?hfx3ux0 ?hrx3ux0 ?hQx3ux0 (yieldsIf_load_at ?hwx3ux0 26 (.tmp 4) ?hopx3ux0 (ga + 1) 0 rfl XB _ (fun W hW => range_row hW.2.2.2) Try.underlying26 rfl ?hix3ux0) hS ?restx3ux0
  case h1x3ux0 => (simp only [List.getElem?_toArray, List.getElem?_cons_succ, List.getElem?_cons_zero]; rfl)
  case hopx3ux0 => rfl
  case hsx3ux0 => kernel_rfl
  case hfx3ux0 => kernel_rfl
  case hrx3ux0 => kernel_rfl
  case hQx3ux0 => exact fun _ _ _ h => h
  case hwx3ux0 => rfl
  case hix3ux0 => exact I4.out
  simp only [Act.put, List.setIfInBounds_toArray, List.set_cons_succ, List.set_cons_zero]
  refine' wpAnyH_take (i := 5) ?h1x5ux0 ?hsx5ux0 ?hfx5ux0 ?hrx5ux0 ?hQx5ux0 (yieldsIf_load_at ?hwx5ux0 26 (.tmp 1) ?hopx5ux0 w.heap.size 0 rfl A _ (fun W hW => range_row hW.2.1) Try.underlying26 rfl ?hix5ux0) hS ?restx5ux0
  case h1x5ux0 => (simp only [List.getElem?_toArray, List.getElem?_cons_succ, List.getElem?_cons_zero]; rfl)
  case hopx5ux0 => rfl
  case hsx5ux0 => kernel_rfl
  case hfx5ux0 => kernel_rfl
  case hrx5ux0 => kernel_rfl
  case hQx5ux0 => exact fun _ _ _ h => h
  case hwx5ux0 => rfl
  case hix5ux0 => exact IA.out
  simp only [Act.put, List.setIfInBounds_toArray, List.set_cons_succ, List.set_cons_zero]
  refine wpAnyH_ready (rs := [4]) (by kernel_rfl) (by simp) ?_
  refine' (AllReadyH.cons ?hoc4ux0 (fun K hK => ?stc4ux0) AllReadyH.nil)
  case hoc4ux0 => (simp only [List.getElem?_toArray, List.getElem?_cons_succ, List.getElem?_cons_zero]; rfl)
  go_simp
  refine (JN.out XA XB Wux0 NA.out NB.out OKA.out OKB.out).mono ?_
  rintro e Wux0x4 ⟨XJ, rfl, hn, hok, hb⟩
  have GR := Lib.hid ((hb.block _ (blk_lt GR.out)).trans GR.out)
  have NR := Lib.hid (NR.out.below hb)
  have HA := Lib.hid ((hb.block _ (blk_lt HA.out)).trans HA.out)
  have HB := Lib.hid ((hb.block _ (blk_lt HB.out)).trans HB.out)
  have NA := Lib.hid (NA.out.below hb)
  have NB := Lib.hid (NB.out.below hb)
  have B0 := Lib.hid (B0.out.trans (hb.mono B0.out.size))
  have CA := Lib.hid (CA.out.below hb)
  have CB := Lib.hid (CB.out.below hb)
  have NJ := Lib.hid hn
  clear hn hok
  go_wp2_with fail
  refine hK.out _ _ (⟨hS.1.trans (hb.mono hS.1.size), (hb.block _ (blk_lt hS.2.1)).trans hS.2.1, (hb.block _ (blk_lt hS.2.2.1)).trans hS.2.2.1, (hb.block _ (blk_lt hS.2.2.2)).trans hS.2.2.2⟩) (fun hHeld => ?_)
  clear hK K
  try simp only [Act.put, List.setIfInBounds_toArray, List.set_cons_succ, List.set_cons_zero]
  clear hS
  have hS := hHeld
  clear hHeld
  clear hb
  refine wpAnyH_ready (rs := [6]) (by kernel_rfl) (by simp) ?_
  refine' (AllReadyH.cons ?hoc6ux0x4 (fun K hK => ?stc6ux0x4) AllReadyH.nil)
  case hoc6ux0x4 => (simp only [List.getElem?_toArray, List.getElem?_cons_succ, List.getElem?_cons_zero]; rfl)
  go_simp
  refine (SM.out XJ Wux0x4 NJ.out NR.out).mono ?_
  rintro e Wux0x4x6 ⟨rfl, hb⟩
  have GR := Lib.hid ((hb.block _ (blk_lt GR.out)).trans GR.out)
  have NR := Lib.hid (NR.out.below hb)
  have HA := Lib.hid ((hb.block _ (blk_lt HA.out)).trans HA.out)
  have HB := Lib.hid ((hb.block _ (blk_lt HB.out)).trans HB.out)
  have NA := Lib.hid (NA.out.below hb)
  have NB := Lib.hid (NB.out.below hb)
  have B0 := Lib.hid (B0.out.trans (hb.mono B0.out.size))
  have CA := Lib.hid (CA.out.below hb)
  have CB := Lib.hid (CB.out.below hb)
  have NJ := Lib.hid (NJ.out.below hb)
  go_wp2_with fail
  refine hK.out _ _ (⟨hS.1.trans (hb.mono hS.1.size), (hb.block _ (blk_lt hS.2.1)).trans hS.2.1, (hb.block _ (blk_lt hS.2.2.1)).trans hS.2.2.1, (hb.block _ (blk_lt hS.2.2.2)).trans hS.2.2.2⟩) (fun hHeld => ?_)
  clear hK K
  try simp only [Act.put, List.setIfInBounds_toArray, List.set_cons_succ, List.set_cons_zero]
  clear hS
  have hS := hHeld
  clear hHeld
  clear hb
  refine' wpAnyH_take (i := 7) ?h1x7ux0x4x6 ?hsx7ux0x4x6 ?hfx7ux0x4x6 ?hrx7ux0x4x6 ?hQx7ux0x4x6 (Or.inl ⟨?hwx7ux0x4x6, ?hyx7ux0x4x6⟩) hS ?restx7ux0x4x6
  case h1x7ux0x4x6 => (simp only [List.getElem?_toArray, List.getElem?_cons_succ, List.getElem?_cons_zero]; rfl)
  case hsx7ux0x4x6 => kernel_rfl
  case hfx7ux0x4x6 => kernel_rfl
  case hrx7ux0x4x6 => kernel_rfl
  case hQx7ux0x4x6 => exact fun _ _ _ h => h
  case hwx7ux0x4x6 => rfl
  case hyx7ux0x4x6 =>
    intro W hW
    go_simp
    try with_reducible rfl
  simp only [Act.put, List.setIfInBounds_toArray, List.set_cons_succ, List.set_cons_zero]
  refine' wpAnyH_take (i := 8) ?h1x8ux0x4x6 ?hsx8ux0x4x6 ?hfx8ux0x4x6 ?hrx8ux0x4x6 ?hQx8ux0x4x6 (Or.inl ⟨?hwx8ux0x4x6, ?hyx8ux0x4x6⟩) hS ?restx8ux0x4x6
  case h1x8ux0x4x6 => (simp only [List.getElem?_toArray, List.getElem?_cons_succ, List.getElem?_cons_zero]; rfl)
  case hsx8ux0x4x6 => kernel_rfl
  case hfx8ux0x4x6 => kernel_rfl
  case hrx8ux0x4x6 => kernel_rfl
  case hQx8ux0x4x6 => exact fun _ _ _ h => h
  case hwx8ux0x4x6 => rfl
  case hyx8ux0x4x6 =>
    intro W hW
    go_simp
    try with_reducible rfl
  simp only [Act.put, List.setIfInBounds_toArray, List.set_cons_succ, List.set_cons_zero]
  refine' wpAnyH_take (i := 9) ?h1x9ux0x4x6 ?hsx9ux0x4x6 ?hfx9ux0x4x6 ?hrx9ux0x4x6 ?hQx9ux0x4x6 (Or.inl ⟨?hwx9ux0x4x6, ?hyx9ux0x4x6⟩) hS ?restx9ux0x4x6
  case h1x9ux0x4x6 => (simp only [List.getElem?_toArray, List.getElem?_cons_succ, List.getElem?_cons_zero]; rfl)
  case hsx9ux0x4x6 => kernel_rfl
  case hfx9ux0x4x6 => kernel_rfl
  case hrx9ux0x4x6 => kernel_rfl
  case hQx9ux0x4x6 => exact fun _ _ _ h => h
  case hwx9ux0x4x6 => rfl
  case hyx9ux0x4x6 =>
    intro W hW
    go_simp
    try with_reducible rfl
  simp only [Act.put, List.setIfInBounds_toArray, List.set_cons_succ, List.set_cons_zero]
  refine' wpAnyH_take (i := 10) ?h1x10ux0x4x6 ?hsx10ux0x4x6 ?hfx10ux0x4x6 ?hrx10ux0x4x6 ?hQx10ux0x4x6 (Or.inl ⟨?hwx10ux0x4x6, ?hyx10ux0x4x6⟩) hS ?restx10ux0x4x6
  case h1x10ux0x4x6 => (simp only [List.getElem?_toArray, List.getElem?_cons_succ, List.getElem?_cons_zero]; rfl)
  case hsx10ux0x4x6 => kernel_rfl
  case hfx10ux0x4x6 => kernel_rfl
  case hrx10ux0x4x6 => kernel_rfl
  case hQx10ux0x4x6 => exact fun _ _ _ h => h
  case hwx10ux0x4x6 => rfl
  case hyx10ux0x4x6 =>
    intro W hW
    go_simp
    try with_reducible rfl
  simp only [Act.put, List.setIfInBounds_toArray, List.set_cons_succ, List.set_cons_zero]
  refine' wpAnyH_take (i := 11) ?h1x11ux0x4x6 ?hsx11ux0x4x6 ?hfx11ux0x4x6 ?hrx11ux0x4x6 ?hQx11ux0x4x6 (Or.inl ⟨?hwx11ux0x4x6, ?hyx11ux0x4x6⟩) hS ?restx11ux0x4x6
  case h1x11ux0x4x6 => (simp only [List.getElem?_toArray, List.getElem?_cons_succ, List.getElem?_cons_zero]; rfl)
  case hsx11ux0x4x6 => kernel_rfl
  case hfx11ux0x4x6 => kernel_rfl
  case hrx11ux0x4x6 => kernel_rfl
  case hQx11ux0x4x6 => exact fun _ _ _ h => h
  case hwx11ux0x4x6 => rfl
  case hyx11ux0x4x6 =>
    intro W hW
    go_simp
    try with_reducible rfl
  simp only [Act.put, List.setIfInBounds_toArray, List.set_cons_succ, List.set_cons_zero]
  refine' wpAnyH_take (i := 12) ?h1x12ux0x4x6 ?hsx12ux0x4x6 ?hfx12ux0x4x6 ?hrx12ux0x4x6 ?hQx12ux0x4x6 (Or.inl ⟨?hwx12ux0x4x6, ?hyx12ux0x4x6⟩) hS ?restx12ux0x4x6
  case h1x12ux0x4x6 => (simp only [List.getElem?_toArray, List.getElem?_cons_succ, List.getElem?_cons_zero]; rfl)
  case hsx12ux0x4x6 => kernel_rfl
  case hfx12ux0x4x6 => kernel_rfl
  case hrx12ux0x4x6 => kernel_rfl
  case hQx12ux0x4x6 => exact fun _ _ _ h => h
  case hwx12ux0x4x6 => rfl
  case hyx12ux0x4x6 =>
    intro W hW
    go_simp
    try with_reducible rfl
  simp only [Act.put, List.setIfInBounds_toArray, List.set_cons_succ, List.set_cons_zero]
  refine' wpAnyH_take (i := 13) ?h1x13ux0x4x6 ?hsx13ux0x4x6 ?hfx13ux0x4x6 ?hrx13ux0x4x6 ?hQx13ux0x4x6 (Or.inl ⟨?hwx13ux0x4x6, ?hyx13ux0x4x6⟩) hS ?restx13ux0x4x6
  case h1x13ux0x4x6 => (simp only [List.getElem?_toArray, List.getElem?_cons_succ, List.getElem?_cons_zero]; rfl)
  case hsx13ux0x4x6 => kernel_rfl
  case hfx13ux0x4x6 => kernel_rfl
  case hrx13ux0x4x6 => kernel_rfl
  case hQx13ux0x4x6 => exact fun _ _ _ h => h
  case hwx13ux0x4x6 => rfl
  case hyx13ux0x4x6 =>
    intro W hW
    go_simp
    try with_reducible rfl
  simp only [Act.put, List.setIfInBounds_toArray, List.set_cons_succ, List.set_cons_zero]
  refine' wpAnyH_take (i := 14) ?h1x14ux0x4x6 ?hsx14ux0x4x6 ?hfx14ux0x4x6 ?hrx14ux0x4x6 ?hQx14ux0x4x6 (Or.inl ⟨?hwx14ux0x4x6, ?hyx14ux0x4x6⟩) hS ?restx14ux0x4x6
  case h1x14ux0x4x6 => (simp only [List.getElem?_toArray, List.getElem?_cons_succ, List.getElem?_cons_zero]; rfl)
  case hsx14ux0x4x6 => kernel_rfl
  case hfx14ux0x4x6 => kernel_rfl
  case hrx14ux0x4x6 => kernel_rfl
  case hQx14ux0x4x6 => exact fun _ _ _ h => h
  case hwx14ux0x4x6 => rfl
  case hyx14ux0x4x6 =>
    intro W hW
    go_simp
    try with_reducible rfl
  simp only [Act.put, List.setIfInBounds_toArray, List.set_cons_succ, List.set_cons_zero]
  refine' wpAnyH_take (i := 15) ?h1x15ux0x4x6 ?hsx15ux0x4x6 ?hfx15ux0x4x6 ?hrx15ux0x4x6 ?hQx15ux0x4x6 (Or.inl ⟨?hwx15ux0x4x6, ?hyx15ux0x4x6⟩) hS ?restx15ux0x4x6
  case h1x15ux0x4x6 => (simp only [List.getElem?_toArray, List.getElem?_cons_succ, List.getElem?_cons_zero]; rfl)
  case hsx15ux0x4x6 => kernel_rfl
  case hfx15ux0x4x6 => kernel_rfl
  case hrx15ux0x4x6 => kernel_rfl
  case hQx15ux0x4x6 => exact fun _ _ _ h => h
  case hwx15ux0x4x6 => rfl
  case hyx15ux0x4x6 =>
    intro W hW
    go_simp
    try with_reducible rfl
  simp only [Act.put, List.setIfInBounds_toArray, List.set_cons_succ, List.set_cons_zero]
  refine' wpAnyH_take (i := 16) ?h1x16ux0x4x6 ?hsx16ux0x4x6 ?hfx16ux0x4x6 ?hrx16ux0x4x6 ?hQx16ux0x4x6 (Or.inl ⟨?hwx16ux0x4x6, ?hyx16ux0x4x6⟩) hS ?restx16ux0x4x6
  case h1x16ux0x4x6 => (simp only [List.getElem?_toArray, List.getElem?_cons_succ, List.getElem?_cons_zero]; rfl)
  case hsx16ux0x4x6 => kernel_rfl
  case hfx16ux0x4x6 => kernel_rfl
  case hrx16ux0x4x6 => kernel_rfl
  case hQx16ux0x4x6 => exact fun _ _ _ h => h
  case hwx16ux0x4x6 => rfl
  case hyx16ux0x4x6 =>
    intro W hW
    go_simp
    try with_reducible rfl
  simp only [Act.put, List.setIfInBounds_toArray, List.set_cons_succ, List.set_cons_zero]
  refine' wpAnyH_take (i := 17) ?h1x17ux0x4x6 ?hsx17ux0x4x6 ?hfx17ux0x4x6 ?hrx17ux0x4x6 ?hQx17ux0x4x6 (Or.inl ⟨?hwx17ux0x4x6, ?hyx17ux0x4x6⟩) hS ?restx17ux0x4x6
  case h1x17ux0x4x6 => (simp only [List.getElem?_toArray, List.getElem?_cons_succ, List.getElem?_cons_zero]; rfl)
  case hsx17ux0x4x6 => kernel_rfl
  case hfx17ux0x4x6 => kernel_rfl
  case hrx17ux0x4x6 => kernel_rfl
  case hQx17ux0x4x6 => exact fun _ _ _ h => h
  case hwx17ux0x4x6 => rfl
  case hyx17ux0x4x6 =>
    intro W hW
    go_simp
    try with_reducible rfl
  simp only [Act.put, List.setIfInBounds_toArray, List.set_cons_succ, List.set_cons_zero]
  refine' wpAnyH_take (i := 18) ?h1x18ux0x4x6 ?hsx18ux0x4x6 ?hfx18ux0x4x6 ?hrx18ux0x4x6 ?hQx18ux0x4x6 (Or.inl ⟨?hwx18ux0x4x6, ?hyx18ux0x4x6⟩) hS ?restx18ux0x4x6
  case h1x18ux0x4x6 => (simp only [List.getElem?_toArray, List.getElem?_cons_succ, List.getElem?_cons_zero]; rfl)
  case hsx18ux0x4x6 => kernel_rfl
  case hfx18ux0x4x6 => kernel_rfl
  case hrx18ux0x4x6 => kernel_rfl
  case hQx18ux0x4x6 => exact fun _ _ _ h => h
  case hwx18ux0x4x6 => rfl
  case hyx18ux0x4x6 =>
    intro W hW
    go_simp
    try with_reducible rfl
  simp only [Act.put, List.setIfInBounds_toArray, List.set_cons_succ, List.set_cons_zero]
  refine' wpAnyH_take (i := 19) ?h1x19ux0x4x6 ?hsx19ux0x4x6 ?hfx19ux0x4x6 ?hrx19ux0x4x6 ?hQx19ux0x4x6 (Or.inl ⟨?hwx19ux0x4x6, ?hyx19ux0x4x6⟩) hS ?restx19ux0x4x6
  case h1x19ux0x4x6 => (simp only [List.getElem?_toArray, List.getElem?_cons_succ, List.getElem?_cons_zero]; rfl)
  case hsx19ux0x4x6 => kernel_rfl
  case hfx19ux0x4x6 => kernel_rfl
  case hrx19ux0x4x6 => kernel_rfl
  case hQx19ux0x4x6 => exact fun _ _ _ h => h
  case hwx19ux0x4x6 => rfl
  case hyx19ux0x4x6 =>
    intro W hW
    go_simp
    try with_reducible rfl
  simp only [Act.put, List.setIfInBounds_toArray, List.set_cons_succ, List.set_cons_zero]
  refine wpAnyH_done (by kernel_rfl) ?_ _
  go_wp2_with fail
  go_ret
  exact ⟨rfl, B0.out⟩
end Go.Proofs.Ytnifaldgofmciaa
