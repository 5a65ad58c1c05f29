/-
  Contract of node.Join. Condition: the nodes read as such, of no more than three hundred of each, with something for each key.
-/
import Derived.Test.YtnifaldgofmciaaNeC
namespace Go.Proofs.Ytnifaldgofmciaa
open Go.RowKit
def joinN (n m : NV) : NV := ⟨n.leaf, n.ks ++ m.ks, n.vs ++ m.vs, n.qs ++ m.qs⟩
theorem two_parts {α : Type} {f : α → List Value} {e : Nat} {w : World} {v u : Value} {xs ys : List α} (h : ES f e w v xs) (k : ES f e w u ys) : Parts f e w [(v, xs), (u, ys)] := fun p hp => by
  simp only [List.mem_cons, List.not_mem_nil, or_false] at hp
  rcases hp with rfl | rfl
  · exact h
  · exact k
set_option maxRecDepth 100000 in
set_option maxHeartbeats 16000000 in
theorem join (A B : Array Value) (n m : NV) (w : World) (hv : ND w (.agg A) n) (hA : okA 0 A) (hs : small n) (hw : wholeB n = true) (hv' : ND w (.agg B) m) (hB : okA 0 B) (hs' : small m) (hw' : wholeB m = true) : Calls Try.prog 21 #[.agg A, .agg B] w (NewN w (joinN n m)) := by
  have hz := z26
  obtain ⟨Z, hZ⟩ : ∃ Z : Array Value, Z = #[.bool false, .slice none 0 0, .slice none 0 0, .slice none 0 0] := ⟨_, rfl⟩
  rw [← hZ] at hz
  have Z4 : Hid (Z.size = 4) := by show _ = _; rw [hZ]; rfl
  clear hZ
  have IA := Lib.hid hA.info
  have IB := Lib.hid hB.info
  have WH : Hid (∀ W, ND W (.agg A) n → Calls Try.prog 37 #[.agg A] W fun e w' => e = .returned (.bool true) ∧ Below W.heap.size W w') := fun W h => by have := whole _ n W h; rw [hw] at this; exact this
  have WH' : Hid (∀ W, ND W (.agg B) m → Calls Try.prog 37 #[.agg B] W fun e w' => e = .returned (.bool true) ∧ Below W.heap.size W w') := fun W h => by have := whole _ m W h; rw [hw'] at this; exact this
  have NR := Lib.hid hv
  have NS := Lib.hid hv'
  obtain ⟨K, V, Q, e, h1, h2, h3, h4, h5⟩ := hv
  obtain ⟨lf, x1, n1, c1, x2, n2, c2, x3, n3, c3, hAe, ⟨m1, m2, m3⟩, f1, f2, f3⟩ := hA
  rw [hAe] at e
  simp only [Value.agg.injEq, Array.mk.injEq, List.cons.injEq, Value.bool.injEq, and_true] at e
  obtain ⟨hlf, rfl, rfl, rfl⟩ := e
  obtain ⟨K, V, Q, e, h1', h2', h3', h4', h5'⟩ := hv'
  obtain ⟨lg, y1, o1, d1, y2, o2, d2, y3, o3, d3, hBe, _, g1, g2, g3⟩ := hB
  rw [hBe] at e
  simp only [Value.agg.injEq, Array.mk.injEq, List.cons.injEq, Value.bool.injEq, and_true] at e
  obtain ⟨hlg, rfl, rfl, rfl⟩ := e
  obtain ⟨s1, s2, s3⟩ := hs
  obtain ⟨t1, t2, t3⟩ := hs'
  have A0 : Hid (A[0]? = some (.bool lf)) := by show _ = _; rw [hAe]; rfl
  have A1 : Hid (A[1]? = some (.slice x1 n1 c1)) := by show _ = _; rw [hAe]; rfl
  have A2 : Hid (A[2]? = some (.slice x2 n2 c2)) := by show _ = _; rw [hAe]; rfl
  have A3 : Hid (A[3]? = some (.slice x3 n3 c3)) := by show _ = _; rw [hAe]; rfl
  have C1 : Hid (B[1]? = some (.slice y1 o1 d1)) := by show _ = _; rw [hBe]; rfl
  have C2 : Hid (B[2]? = some (.slice y2 o2 d2)) := by show _ = _; rw [hBe]; rfl
  have C3 : Hid (B[3]? = some (.slice y3 o3 d3)) := by show _ = _; rw [hBe]; rfl
  clear hAe f1 f2 f3 hBe g1 g2 g3 hlg m1 m2 m3
  have KC : Hid (∀ (W : World) (g : Nat), W.heap[g]? = some (.cells #[.slice x1 n1 c1, .slice y1 o1 d1] 22 (0, 0)) → ES key1 1 W (.slice x1 n1 c1) n.ks → ES key1 1 W (.slice y1 o1 d1) m.ks → Calls Try.prog 39 #[.slice (some ⟨g, 0, none⟩) 2 2] W (ConcP key1 1 W (n.ks ++ m.ks))) := fun W g a b c => by
    have := concK [(.slice x1 n1 c1, n.ks), (.slice y1 o1 d1, m.ks)] _ g W a rfl (two_parts b c) (by simp only [List.flatMap_cons, List.flatMap_nil, List.length_append, List.length_nil]; omega) (by simp)
    simp only [List.flatMap_cons, List.flatMap_nil, List.append_nil] at this
    exact this
  have VC : Hid (∀ (W : World) (g : Nat), W.heap[g]? = some (.cells #[.slice x2 n2 c2, .slice y2 o2 d2] 23 (0, 0)) → ES val 44 W (.slice x2 n2 c2) n.vs → ES val 44 W (.slice y2 o2 d2) m.vs → Calls Try.prog 40 #[.slice (some ⟨g, 0, none⟩) 2 2] W (ConcP val 44 W (n.vs ++ m.vs))) := fun W g a b c => by
    have := concV [(.slice x2 n2 c2, n.vs), (.slice y2 o2 d2, m.vs)] _ g W a rfl (two_parts b c) (by simp only [List.flatMap_cons, List.flatMap_nil, List.length_append, List.length_nil]; omega) (by simp)
    simp only [List.flatMap_cons, List.flatMap_nil, List.append_nil] at this
    exact this
  have QC : Hid (∀ (W : World) (g : Nat), W.heap[g]? = some (.cells #[.slice x3 n3 c3, .slice y3 o3 d3] 24 (0, 0)) → ES kid 33 W (.slice x3 n3 c3) n.qs → ES kid 33 W (.slice y3 o3 d3) m.qs → Calls Try.prog 41 #[.slice (some ⟨g, 0, none⟩) 2 2] W (ConcP kid 33 W (n.qs ++ m.qs))) := fun W g a b c => by
    have := concQ [(.slice x3 n3 c3, n.qs), (.slice y3 o3 d3, m.qs)] _ g W a rfl (two_parts b c) (by simp only [List.flatMap_cons, List.flatMap_nil, List.length_append, List.length_nil]; omega) (by simp)
    simp only [List.flatMap_cons, List.flatMap_nil, List.append_nil] at this
    exact this
  have FIN : Hid (∀ (W : World) (K V Q : Value), ES key1 1 W K (n.ks ++ m.ks) → ES val 44 W V (n.vs ++ m.vs) → ES kid 33 W Q (n.qs ++ m.qs) → ND W (.agg #[.bool lf, K, V, Q]) (joinN n m)) := fun W K V Q g1 g2 g3 =>
    ⟨K, V, Q, by rw [hlf]; rfl, g1.ks (fun k hk => (List.mem_append.1 hk).elim (h1.1 k) (h1'.1 k)), g2, g3, fun z hz => (List.mem_append.1 hz).elim (h4 z) (h4' z), fun p hp => (List.mem_append.1 hp).elim (h5 p) (h5' p)⟩
  obtain ⟨W1, hW1⟩ : ∃ W1, W1 = ((w.alloc (.cells A 26)).alloc (.cells B 26)).alloc (.cells Z 26) := ⟨_, rfl⟩
  have b0 : Below w.heap.size w (w.alloc (.cells A 26)) := (Below.refl _ _).alloc (Nat.le_refl _) _
  have b1 : Below w.heap.size w ((w.alloc (.cells A 26)).alloc (.cells B 26)) := b0.alloc (by simp) _
  have b2 : Below w.heap.size w W1 := by rw [hW1]; exact b1.alloc (by simp; omega) _
  have G0 : Hid (W1.heap[w.heap.size]? = some (.cells A 26 (0, 0))) := by show _ = _; rw [hW1, Below.heap_alloc _ _ _ (by simp; omega), Below.heap_alloc _ _ _ (by simp)]; exact heap_alloc_new w _
  have G1 : Hid (W1.heap[w.heap.size + 1]? = some (.cells B 26 (0, 0))) := by
    show _ = _
    rw [hW1, Below.heap_alloc _ _ _ (by simp)]
    have := heap_alloc_new (w.alloc (.cells A 26)) (.cells B 26)
    simpa using this
  have G2 : Hid (W1.heap[w.heap.size + 2]? = some (.cells Z 26 (0, 0))) := by
    show _ = _
    rw [hW1]
    have := heap_alloc_new ((w.alloc (.cells A 26)).alloc (.cells B 26)) (.cells Z 26)
    simpa using this
  have EK := Lib.hid (h1.es.below b2)
  have EV := Lib.hid (h2.below b2)
  have EQ := Lib.hid (h3.below b2)
  have DK := Lib.hid (h1'.es.below b2)
  have DV := Lib.hid (h2'.below b2)
  have DQ := Lib.hid (h3'.below b2)
  have NR := Lib.hid (NR.out.below b2)
  have NS := Lib.hid (NS.out.below b2)
  have B1 := Lib.hid b2
  have HW1 := Lib.hid hW1
  clear hW1 b0 b1 b2 h1 h2 h3 h4 h5 h1' h2' h3' h4' h5' s1 s2 s3 t1 t2 t3 hlf hw hw'
  generalize joinN n m = R at *
  generalize n.ks ++ m.ks = LK at *
  generalize n.vs ++ m.vs = LV at *
  generalize n.qs ++ m.qs = LQ at *
  go_enter Try.func21, Try.ntmps21
  go_upto_region 1 with (fail)
  rw [← HW1.out]
  clear hz
  go_wp2_with (refine wpList_load_row rfl 26 (.tmp 2) rfl w.heap.size rfl 26 A (0, 0) _ G0.out Try.underlying26 rfl IA.out ?_)
  refine (WH.out _ NR.out).mono ?_
  rintro e w2 ⟨rfl, hb⟩
  have B1 := Lib.hid (B1.out.trans (hb.mono B1.out.size))
  have G0 := Lib.hid ((hb.block _ (blk_lt G0.out)).trans G0.out)
  have G1 := Lib.hid ((hb.block _ (blk_lt G1.out)).trans G1.out)
  have G2 := Lib.hid ((hb.block _ (blk_lt G2.out)).trans G2.out)
  have EK := Lib.hid (EK.out.below hb)
  have EV := Lib.hid (EV.out.below hb)
  have EQ := Lib.hid (EQ.out.below hb)
  have DK := Lib.hid (DK.out.below hb)
  have DV := Lib.hid (DV.out.below hb)
  have DQ := Lib.hid (DQ.out.below hb)
  have NS := Lib.hid (NS.out.below hb)
  clear hb NR
  go_wp2_with (refine wpList_load_met rfl 26 (.tmp 3) rfl (w.heap.size + 1) rfl 26 B (0, 0) _ G1.out Try.underlying26 ⟨_, rfl⟩ IB.out ?_)
  refine (WH'.out _ NS.out).mono ?_
  rintro e w3 ⟨rfl, hb⟩
  have B1 := Lib.hid (B1.out.trans (hb.mono B1.out.size))
  have G0 := Lib.hid ((hb.block _ (blk_lt G0.out)).trans G0.out)
  have G1 := Lib.hid ((hb.block _ (blk_lt G1.out)).trans G1.out)
  have G2 := Lib.hid ((hb.block _ (blk_lt G2.out)).trans G2.out)
  have EK := Lib.hid (EK.out.below hb)
  have EV := Lib.hid (EV.out.below hb)
  have EQ := Lib.hid (EQ.out.below hb)
  have DK := Lib.hid (DK.out.below hb)
  have DV := Lib.hid (DV.out.below hb)
  have DQ := Lib.hid (DQ.out.below hb)
  clear hb NS
  go_wp2_with fail
  refine wp_region_held_drew (S := fun W => Below w.heap.size w W ∧ W.heap[w.heap.size]? = some (.cells A 26 (0, 0)) ∧ W.heap[(w.heap.size + 1)]? = some (.cells B 26 (0, 0))) (by kernel_rfl) (⟨B1.out.drew, G0.out, G1.out⟩) (fun hS => ?_)
  have hb0 : Below w3.heap.size w3 w3.drew := (Below.refl _ _).drew
  have qEK := EK.out.below hb0
  have qEV := EV.out.below hb0
  have qEQ := EQ.out.below hb0
  have qDK := DK.out.below hb0
  have qDV := DV.out.below hb0
  have qDQ := DQ.out.below hb0
  have qG2 := (hb0.block _ (blk_lt G2.out)).trans G2.out
  clear hb0 EK EV EQ DK DV DQ G2
  generalize w3.drew = Wjs at hS qEK qEV qEQ qDK qDV qDQ qG2 ⊢
  have EK := Lib.hid qEK
  have EV := Lib.hid qEV
  have EQ := Lib.hid qEQ
  have DK := Lib.hid qDK
  have DV := Lib.hid qDV
  have DQ := Lib.hid qDQ
  have G2 := Lib.hid qG2
  clear qEK qEV qEQ qDK qDV qDQ qG2
  refine' wpAnyH_take (i := 0) ?h1x0j ?hsx0j ?hfx0j ?hrx0j ?hQx0j (Or.inl ⟨?hwx0j, ?hyx0j⟩) hS ?restx0j
  case h1x0j => (simp only [List.getElem?_toArray, List.getElem?_cons_zero]; rfl)
  case hsx0j => kernel_rfl
  case hfx0j => kernel_rfl
  case hrx0j => kernel_rfl
  case hQx0j => exact fun _ _ _ h => h
  case hwx0j => rfl
  case hyx0j =>
    intro W hW
    go_simp
    try with_reducible rfl
  simp only [Act.put, List.setIfInBounds_toArray, List.set_cons_succ, List.set_cons_zero]
  refine' wpAnyH_take (i := 2) ?h1x2j ?hsx2j ?hfx2j ?hrx2j ?hQx2j (Or.inl ⟨?hwx2j, ?hyx2j⟩) hS ?restx2j
  case h1x2j => (simp only [List.getElem?_toArray, List.getElem?_cons_succ, List.getElem?_cons_zero]; rfl)
  case hsx2j => kernel_rfl
  case hfx2j => kernel_rfl
  case hrx2j => kernel_rfl
  case hQx2j => exact fun _ _ _ h => h
  case hwx2j => rfl
  case hyx2j =>
    intro W hW
    go_simp
    try with_reducible rfl
  simp only [Act.put, List.setIfInBounds_toArray, List.set_cons_succ, List.set_cons_zero]
  refine' wpAnyH_take (i := 4) ?h1x4j ?hsx4j ?hfx4j ?hrx4j ?hQx4j (Or.inl ⟨?hwx4j, ?hyx4j⟩) hS ?restx4j
  case h1x4j => (simp only [List.getElem?_toArray, List.getElem?_cons_succ, List.getElem?_cons_zero]; rfl)
  case hsx4j => kernel_rfl
  case hfx4j => kernel_rfl
  case hrx4j => kernel_rfl
  case hQx4j => exact fun _ _ _ h => h
  case hwx4j => rfl
  case hyx4j =>
    intro W hW
    go_simp
    try with_reducible rfl
  simp only [Act.put, List.setIfInBounds_toArray, List.set_cons_succ, List.set_cons_zero]
  refine' wpAnyH_take (i := 8) ?h1x8j ?hsx8j ?hfx8j ?hrx8j ?hQx8j (Or.inl ⟨?hwx8j, ?hyx8j⟩) hS ?restx8j
  case h1x8j => (simp only [List.getElem?_toArray, List.getElem?_cons_succ, List.getElem?_cons_zero]; rfl)
  case hsx8j => kernel_rfl
  case hfx8j => kernel_rfl
  case hrx8j => kernel_rfl
  case hQx8j => exact fun _ _ _ h => h
  case hwx8j => rfl
  case hyx8j =>
    intro W hW
    go_simp
    try with_reducible rfl
  simp only [Act.put, List.setIfInBounds_toArray, List.set_cons_succ, List.set_cons_zero]
  refine' wpAnyH_take (i := 10) ?h1x10j ?hsx10j ?hfx10j ?hrx10j ?hQx10j (Or.inl ⟨?hwx10j, ?hyx10j⟩) hS ?restx10j
  case h1x10j => (simp only [List.getElem?_toArray, List.getElem?_cons_succ, List.getElem?_cons_zero]; rfl)
  case hsx10j => kernel_rfl
  case hfx10j => kernel_rfl
  case hrx10j => kernel_rfl
  case hQx10j => exact fun _ _ _ h => h
  case hwx10j => rfl
  case hyx10j =>
    intro W hW
    go_simp
    try with_reducible rfl
  simp only [Act.put, List.setIfInBounds_toArray, List.set_cons_succ, List.set_cons_zero]
  refine' wpAnyH_take (i := 14) ?h1x14j ?hsx14j ?hfx14j ?hrx14j ?hQx14j (Or.inl ⟨?hwx14j, ?hyx14j⟩) hS ?restx14j
  case h1x14j => (simp only [List.getElem?_toArray, List.getElem?_cons_succ, List.getElem?_cons_zero]; rfl)
  case hsx14j => kernel_rfl
  case hfx14j => kernel_rfl
  case hrx14j => kernel_rfl
  case hQx14j => exact fun _ _ _ h => h
  case hwx14j => rfl
  case hyx14j =>
    intro W hW
    go_simp
    try with_reducible rfl
  simp only [Act.put, List.setIfInBounds_toArray, List.set_cons_succ, List.set_cons_zero]
  refine' wpAnyH_take (i := 16) ?h1x16j ?hsx16j ?hfx16j ?hrx16j ?hQx16j (Or.inl ⟨?hwx16j, ?hyx16j⟩) hS ?restx16j
  case h1x16j => (simp only [List.getElem?_toArray, List.getElem?_cons_succ, List.getElem?_cons_zero]; rfl)
  case hsx16j => kernel_rfl
  case hfx16j => kernel_rfl
  case hrx16j => kernel_rfl
  case hQx16j => exact fun _ _ _ h => h
  case hwx16j => rfl
  case hyx16j =>
    intro W hW
    go_simp
    try with_reducible rfl
  simp only [Act.put, List.setIfInBounds_toArray, List.set_cons_succ, List.set_cons_zero]
  refine' wpAnyH_take (i := 1) ?h1x1j ?hsx1j ?hfx1j ?hrx1j ?hQx1j (Or.inl ⟨?hwx1j, ?hyx1j⟩) hS ?restx1j
  case h1x1j => (simp only [List.getElem?_toArray, List.getElem?_cons_succ, List.getElem?_cons_zero]; rfl)
  case hsx1j => kernel_rfl
  case hfx1j => kernel_rfl
  case hrx1j => kernel_rfl
  case hQx1j => exact fun _ _ _ h => h
  case hwx1j => rfl
  case hyx1j =>
    intro W hW
    have cc := (cell_row hW.2.1 0).trans A0.out
    go_simp
    try with_reducible rfl
  simp only [Act.put, List.setIfInBounds_toArray, List.set_cons_succ, List.set_cons_zero]
  refine' wpAnyH_take (i := 3) ?h1x3j ?hsx3j ?hfx3j ?hrx3j ?hQx3j (Or.inl ⟨?hwx3j, ?hyx3j⟩) hS ?restx3j
  case h1x3j => (simp only [List.getElem?_toArray, List.getElem?_cons_succ, List.getElem?_cons_zero]; rfl)
  case hsx3j => kernel_rfl
  case hfx3j => kernel_rfl
  case hrx3j => kernel_rfl
  case hQx3j => exact fun _ _ _ h => h
  case hwx3j => rfl
  case hyx3j =>
    intro W hW
    have cc := (cell_row hW.2.1 1).trans A1.out
    go_simp
    try with_reducible rfl
  simp only [Act.put, List.setIfInBounds_toArray, List.set_cons_succ, List.set_cons_zero]
  refine' wpAnyH_take (i := 5) ?h1x5j ?hsx5j ?hfx5j ?hrx5j ?hQx5j (Or.inl ⟨?hwx5j, ?hyx5j⟩) hS ?restx5j
  case h1x5j => (simp only [List.getElem?_toArray, List.getElem?_cons_succ, List.getElem?_cons_zero]; rfl)
  case hsx5j => kernel_rfl
  case hfx5j => kernel_rfl
  case hrx5j => kernel_rfl
  case hQx5j => exact fun _ _ _ h => h
  case hwx5j => rfl
  case hyx5j =>
    intro W hW
    have cc := (cell_row hW.2.2 1).trans C1.out
    go_simp
    try with_reducible rfl
  simp only [Act.put, List.setIfInBounds_toArray, List.set_cons_succ, List.set_cons_zero]
  refine' wpAnyH_take (i := 9) ?h1x9j ?hsx9j ?hfx9j ?hrx9j ?hQx9j (Or.inl ⟨?hwx9j, ?hyx9j⟩) hS ?restx9j
  case h1x9j => (simp only [List.getElem?_toArray, List.getElem?_cons_succ, List.getElem?_cons_zero]; rfl)
  case hsx9j => kernel_rfl
  case hfx9j => kernel_rfl
  case hrx9j => kernel_rfl
  case hQx9j => exact fun _ _ _ h => h
  case hwx9j => rfl
  case hyx9j =>
    intro W hW
    have cc := (cell_row hW.2.1 2).trans A2.out
    go_simp
    try with_reducible rfl
  simp only [Act.put, List.setIfInBounds_toArray, List.set_cons_succ, List.set_cons_zero]
  refine' wpAnyH_take (i := 11) ?h1x11j ?hsx11j ?hfx11j ?hrx11j ?hQx11j (Or.inl ⟨?hwx11j, ?hyx11j⟩) hS ?restx11j
  case h1x11j => (simp only [List.getElem?_toArray, List.getElem?_cons_succ, List.getElem?_cons_zero]; rfl)
  case hsx11j => kernel_rfl
  case hfx11j => kernel_rfl
  case hrx11j => kernel_rfl
  case hQx11j => exact fun _ _ _ h => h
  case hwx11j => rfl
  case hyx11j =>
    intro W hW
    have cc := (cell_row hW.2.2 2).trans C2.out
    go_simp
    try with_reducible rfl
  simp only [Act.put, List.setIfInBounds_toArray, List.set_cons_succ, List.set_cons_zero]
  refine' wpAnyH_take (i := 15) ?h1x15j ?hsx15j ?hfx15j ?hrx15j ?hQx15j (Or.inl ⟨?hwx15j, ?hyx15j⟩) hS ?restx15j
  case h1x15j => (simp only [List.getElem?_toArray, List.getElem?_cons_succ, List.getElem?_cons_zero]; rfl)
  case hsx15j => kernel_rfl
  case hfx15j => kernel_rfl
  case hrx15j => kernel_rfl
  case hQx15j => exact fun _ _ _ h => h
  case hwx15j => rfl
  case hyx15j =>
    intro W hW
    have cc := (cell_row hW.2.1 3).trans A3.out
    go_simp
    try with_reducible rfl
  simp only [Act.put, List.setIfInBounds_toArray, List.set_cons_succ, List.set_cons_zero]
  refine' wpAnyH_take (i := 17) ?h1x17j ?hsx17j ?hfx17j ?hrx17j ?hQx17j (Or.inl ⟨?hwx17j, ?hyx17j⟩) hS ?restx17j
  case h1x17j => (simp only [List.getElem?_toArray, List.getElem?_cons_succ, List.getElem?_cons_zero]; rfl)
  case hsx17j => kernel_rfl
  case hfx17j => kernel_rfl
  case hrx17j => kernel_rfl
  case hQx17j => exact fun _ _ _ h => h
  case hwx17j => rfl
  case hyx17j =>
    intro W hW
    have cc := (cell_row hW.2.2 3).trans C3.out
    go_simp
    try with_reducible rfl
  simp only [Act.put, List.setIfInBounds_toArray, List.set_cons_succ, List.set_cons_zero]
  refine wpAnyH_ready (rs := [6, 12, 18]) (by kernel_rfl) (by simp) ?_
  refine' (AllReadyH.cons ?hoc6j (fun K hK => ?stc6j) (AllReadyH.cons ?hoc12j (fun K hK => ?stc12j) (AllReadyH.cons ?hoc18j (fun K hK => ?stc18j) AllReadyH.nil)))
  case hoc6j => (simp only [List.getElem?_toArray, List.getElem?_cons_succ, List.getElem?_cons_zero]; rfl)
  case hoc12j => (simp only [List.getElem?_toArray, List.getElem?_cons_succ, List.getElem?_cons_zero]; rfl)
  case hoc18j => (simp only [List.getElem?_toArray, List.getElem?_cons_succ, List.getElem?_cons_zero]; rfl)
  case stc6j =>
    go_simp
    have hb := (Below.refl Wjs.heap.size Wjs).alloc (Nat.le_refl _) (.cells #[.slice x1 n1 c1, .slice y1 o1 d1] 22)
    refine hK.out _ _ (⟨hS.1.trans (hb.mono hS.1.size), (hb.block _ (blk_lt hS.2.1)).trans hS.2.1, (hb.block _ (blk_lt hS.2.2)).trans hS.2.2⟩) (fun hHeld => ?_)
    clear hK K
    try simp only [Act.put, List.setIfInBounds_toArray, List.set_cons_succ, List.set_cons_zero]
    have qPK := heap_alloc_new Wjs (.cells #[.slice x1 n1 c1, .slice y1 o1 d1] 22)
    have hpK := hS.1.size
    have qEK := EK.out.below hb
    have qEV := EV.out.below hb
    have qEQ := EQ.out.below hb
    have qDK := DK.out.below hb
    have qDV := DV.out.below hb
    have qDQ := DQ.out.below hb
    have qG2 := (hb.block _ (blk_lt G2.out)).trans G2.out
    clear hS
    have hS := hHeld
    clear hHeld
    clear hb
    clear EK EV EQ DK DV DQ G2
    generalize Wjs.alloc (.cells #[.slice x1 n1 c1, .slice y1 o1 d1] 22) = Wjx6 at *
    generalize Wjs.heap.size = pK at *
    have EK := Lib.hid qEK
    have EV := Lib.hid qEV
    have EQ := Lib.hid qEQ
    have DK := Lib.hid qDK
    have DV := Lib.hid qDV
    have DQ := Lib.hid qDQ
    have G2 := Lib.hid qG2
    have PK := Lib.hid qPK
    clear qEK qEV qEQ qDK qDV qDQ qG2 qPK
    refine wpAnyH_ready (rs := [7, 12, 18]) (by kernel_rfl) (by simp) ?_
    refine' (AllReadyH.cons ?hoc7jx6 (fun K hK => ?stc7jx6) (AllReadyH.cons ?hoc12jx6 (fun K hK => ?stc12jx6) (AllReadyH.cons ?hoc18jx6 (fun K hK => ?stc18jx6) AllReadyH.nil)))
    case hoc7jx6 => (simp only [List.getElem?_toArray, List.getElem?_cons_succ, List.getElem?_cons_zero]; rfl)
    case hoc12jx6 => (simp only [List.getElem?_toArray, List.getElem?_cons_succ, List.getElem?_cons_zero]; rfl)
    case hoc18jx6 => (simp only [List.getElem?_toArray, List.getElem?_cons_succ, List.getElem?_cons_zero]; rfl)
    case stc7jx6 =>
      have hg1 := blk_lt G2.out
      go_simp
      refine (KC.out Wjx6 _ PK.out EK.out DK.out).mono ?_
      rintro e Wjx6x7 ⟨vK, rfl, hes, ⟨yK, kK, dK, rfl, hle, _⟩, hfr, hb⟩
      have EK := Lib.hid (EK.out.below hb)
      have EV := Lib.hid (EV.out.below hb)
      have EQ := Lib.hid (EQ.out.below hb)
      have DK := Lib.hid (DK.out.below hb)
      have DV := Lib.hid (DV.out.below hb)
      have DQ := Lib.hid (DQ.out.below hb)
      have G2 := Lib.hid ((hb.block _ (blk_lt G2.out)).trans G2.out)
      have PK := Lib.hid ((hb.block _ (blk_lt PK.out)).trans PK.out)
      have MK := Lib.hid hle
      have FK := Lib.hid (fresh_le hfr hg1)
      have RK := Lib.hid hes
      clear hes hle hfr hg1
      go_wp2_with fail
      refine hK.out _ _ (⟨hS.1.trans (hb.mono hS.1.size), (hb.block _ (blk_lt hS.2.1)).trans hS.2.1, (hb.block _ (blk_lt hS.2.2)).trans hS.2.2⟩) (fun hHeld => ?_)
      clear hK K
      try simp only [Act.put, List.setIfInBounds_toArray, List.set_cons_succ, List.set_cons_zero]
      clear hS
      have hS := hHeld
      clear hHeld
      clear hb
      refine wpAnyH_ready (rs := [12, 18]) (by kernel_rfl) (by simp) ?_
      refine' (AllReadyH.cons ?hoc12jx6x7 (fun K hK => ?stc12jx6x7) (AllReadyH.cons ?hoc18jx6x7 (fun K hK => ?stc18jx6x7) AllReadyH.nil))
      case hoc12jx6x7 => (simp only [List.getElem?_toArray, List.getElem?_cons_succ, List.getElem?_cons_zero]; rfl)
      case hoc18jx6x7 => (simp only [List.getElem?_toArray, List.getElem?_cons_succ, List.getElem?_cons_zero]; rfl)
      case stc12jx6x7 =>
        go_simp
        have hb := (Below.refl Wjx6x7.heap.size Wjx6x7).alloc (Nat.le_refl _) (.cells #[.slice x2 n2 c2, .slice y2 o2 d2] 23)
        refine hK.out _ _ (⟨hS.1.trans (hb.mono hS.1.size), (hb.block _ (blk_lt hS.2.1)).trans hS.2.1, (hb.block _ (blk_lt hS.2.2)).trans hS.2.2⟩) (fun hHeld => ?_)
        clear hK K
        try simp only [Act.put, List.setIfInBounds_toArray, List.set_cons_succ, List.set_cons_zero]
        have qPV := heap_alloc_new Wjx6x7 (.cells #[.slice x2 n2 c2, .slice y2 o2 d2] 23)
        have hpV := hS.1.size
        have qEK := EK.out.below hb
        have qEV := EV.out.below hb
        have qEQ := EQ.out.below hb
        have qDK := DK.out.below hb
        have qDV := DV.out.below hb
        have qDQ := DQ.out.below hb
        have qG2 := (hb.block _ (blk_lt G2.out)).trans G2.out
        have nepVpK : Wjx6x7.heap.size ≠ pK := by have := blk_lt PK.out; omega
        have qPK := (hb.block _ (blk_lt PK.out)).trans PK.out
        have qRK := RK.out.below hb
        clear hS
        have hS := hHeld
        clear hHeld
        clear hb
        clear EK EV EQ DK DV DQ G2 PK RK
        generalize Wjx6x7.alloc (.cells #[.slice x2 n2 c2, .slice y2 o2 d2] 23) = Wjx6x7x12 at *
        generalize Wjx6x7.heap.size = pV at *
        have EK := Lib.hid qEK
        have EV := Lib.hid qEV
        have EQ := Lib.hid qEQ
        have DK := Lib.hid qDK
        have DV := Lib.hid qDV
        have DQ := Lib.hid qDQ
        have G2 := Lib.hid qG2
        have PK := Lib.hid qPK
        have RK := Lib.hid qRK
        have PV := Lib.hid qPV
        clear qEK qEV qEQ qDK qDV qDQ qG2 qPK qRK qPV
        refine wpAnyH_ready (rs := [13, 18]) (by kernel_rfl) (by simp) ?_
        refine' (AllReadyH.cons ?hoc13jx6x7x12 (fun K hK => ?stc13jx6x7x12) (AllReadyH.cons ?hoc18jx6x7x12 (fun K hK => ?stc18jx6x7x12) AllReadyH.nil))
        case hoc13jx6x7x12 => (simp only [List.getElem?_toArray, List.getElem?_cons_succ, List.getElem?_cons_zero]; rfl)
        case hoc18jx6x7x12 => (simp only [List.getElem?_toArray, List.getElem?_cons_succ, List.getElem?_cons_zero]; rfl)
        case stc13jx6x7x12 =>
          have hg1 := blk_lt G2.out
          go_simp
          refine (VC.out Wjx6x7x12 _ PV.out EV.out DV.out).mono ?_
          rintro e Wjx6x7x12x13 ⟨vV, rfl, hes, ⟨yV, kV, dV, rfl, hle, _⟩, hfr, hb⟩
          have EK := Lib.hid (EK.out.below hb)
          have EV := Lib.hid (EV.out.below hb)
          have EQ := Lib.hid (EQ.out.below hb)
          have DK := Lib.hid (DK.out.below hb)
          have DV := Lib.hid (DV.out.below hb)
          have DQ := Lib.hid (DQ.out.below hb)
          have G2 := Lib.hid ((hb.block _ (blk_lt G2.out)).trans G2.out)
          have PK := Lib.hid ((hb.block _ (blk_lt PK.out)).trans PK.out)
          have RK := Lib.hid (RK.out.below hb)
          have PV := Lib.hid ((hb.block _ (blk_lt PV.out)).trans PV.out)
          have MV := Lib.hid hle
          have FV := Lib.hid (fresh_le hfr hg1)
          have RV := Lib.hid hes
          clear hes hle hfr hg1
          go_wp2_with fail
          refine hK.out _ _ (⟨hS.1.trans (hb.mono hS.1.size), (hb.block _ (blk_lt hS.2.1)).trans hS.2.1, (hb.block _ (blk_lt hS.2.2)).trans hS.2.2⟩) (fun hHeld => ?_)
          clear hK K
          try simp only [Act.put, List.setIfInBounds_toArray, List.set_cons_succ, List.set_cons_zero]
          clear hS
          have hS := hHeld
          clear hHeld
          clear hb
          refine wpAnyH_ready (rs := [18]) (by kernel_rfl) (by simp) ?_
          refine' (AllReadyH.cons ?hoc18jx6x7x12x13 (fun K hK => ?stc18jx6x7x12x13) AllReadyH.nil)
          case hoc18jx6x7x12x13 => (simp only [List.getElem?_toArray, List.getElem?_cons_succ, List.getElem?_cons_zero]; rfl)
          go_simp
          have hb := (Below.refl Wjx6x7x12x13.heap.size Wjx6x7x12x13).alloc (Nat.le_refl _) (.cells #[.slice x3 n3 c3, .slice y3 o3 d3] 24)
          refine hK.out _ _ (⟨hS.1.trans (hb.mono hS.1.size), (hb.block _ (blk_lt hS.2.1)).trans hS.2.1, (hb.block _ (blk_lt hS.2.2)).trans hS.2.2⟩) (fun hHeld => ?_)
          clear hK K
          try simp only [Act.put, List.setIfInBounds_toArray, List.set_cons_succ, List.set_cons_zero]
          have qPQ := heap_alloc_new Wjx6x7x12x13 (.cells #[.slice x3 n3 c3, .slice y3 o3 d3] 24)
          have hpQ := hS.1.size
          have qEK := EK.out.below hb
          have qEV := EV.out.below hb
          have qEQ := EQ.out.below hb
          have qDK := DK.out.below hb
          have qDV := DV.out.below hb
          have qDQ := DQ.out.below hb
          have qG2 := (hb.block _ (blk_lt G2.out)).trans G2.out
          have nepQpK : Wjx6x7x12x13.heap.size ≠ pK := by have := blk_lt PK.out; omega
          have qPK := (hb.block _ (blk_lt PK.out)).trans PK.out
          have qRK := RK.out.below hb
          have nepQpV : Wjx6x7x12x13.heap.size ≠ pV := by have := blk_lt PV.out; omega
          have qPV := (hb.block _ (blk_lt PV.out)).trans PV.out
          have qRV := RV.out.below hb
          clear hS
          have hS := hHeld
          clear hHeld
          clear hb
          clear EK EV EQ DK DV DQ G2 PK RK PV RV
          generalize Wjx6x7x12x13.alloc (.cells #[.slice x3 n3 c3, .slice y3 o3 d3] 24) = Wjx6x7x12x13x18 at *
          generalize Wjx6x7x12x13.heap.size = pQ at *
          have EK := Lib.hid qEK
          have EV := Lib.hid qEV
          have EQ := Lib.hid qEQ
          have DK := Lib.hid qDK
          have DV := Lib.hid qDV
          have DQ := Lib.hid qDQ
          have G2 := Lib.hid qG2
          have PK := Lib.hid qPK
          have RK := Lib.hid qRK
          have PV := Lib.hid qPV
          have RV := Lib.hid qRV
          have PQ := Lib.hid qPQ
          clear qEK qEV qEQ qDK qDV qDQ qG2 qPK qRK qPV qRV qPQ
          refine wpAnyH_ready (rs := [19]) (by kernel_rfl) (by simp) ?_
          refine' (AllReadyH.cons ?hoc19jx6x7x12x13x18 (fun K hK => ?stc19jx6x7x12x13x18) AllReadyH.nil)
          case hoc19jx6x7x12x13x18 => (simp only [List.getElem?_toArray, List.getElem?_cons_succ, List.getElem?_cons_zero]; rfl)
          have hg1 := blk_lt G2.out
          go_simp
          refine (QC.out Wjx6x7x12x13x18 _ PQ.out EQ.out DQ.out).mono ?_
          rintro e Wjx6x7x12x13x18x19 ⟨vQ, rfl, hes, ⟨yQ, kQ, dQ, rfl, hle, _⟩, hfr, hb⟩
          have EK := Lib.hid (EK.out.below hb)
          have EV := Lib.hid (EV.out.below hb)
          have EQ := Lib.hid (EQ.out.below hb)
          have DK := Lib.hid (DK.out.below hb)
          have DV := Lib.hid (DV.out.below hb)
          have DQ := Lib.hid (DQ.out.below hb)
          have G2 := Lib.hid ((hb.block _ (blk_lt G2.out)).trans G2.out)
          have PK := Lib.hid ((hb.block _ (blk_lt PK.out)).trans PK.out)
          have RK := Lib.hid (RK.out.below hb)
          have PV := Lib.hid ((hb.block _ (blk_lt PV.out)).trans PV.out)
          have RV := Lib.hid (RV.out.below hb)
          have PQ := Lib.hid ((hb.block _ (blk_lt PQ.out)).trans PQ.out)
          have MQ := Lib.hid hle
          have FQ := Lib.hid (fresh_le hfr hg1)
          have RQ := Lib.hid hes
          clear hes hle hfr hg1
          go_wp2_with fail
          refine hK.out _ _ (⟨hS.1.trans (hb.mono hS.1.size), (hb.block _ (blk_lt hS.2.1)).trans hS.2.1, (hb.block _ (blk_lt hS.2.2)).trans hS.2.2⟩) (fun hHeld => ?_)
          clear hK K
          try simp only [Act.put, List.setIfInBounds_toArray, List.set_cons_succ, List.set_cons_zero]
          clear hS
          have hS := hHeld
          clear hHeld
          clear hb
          refine' wpAnyH_take (i := 20) ?h1x20jx6x7x12x13x18x19 ?hsx20jx6x7x12x13x18x19 ?hfx20jx6x7x12x13x18x19 ?hrx20jx6x7x12x13x18x19 ?hQx20jx6x7x12x13x18x19 (Or.inl ⟨?hwx20jx6x7x12x13x18x19, ?hyx20jx6x7x12x13x18x19⟩) hS ?restx20jx6x7x12x13x18x19
          case h1x20jx6x7x12x13x18x19 => (simp only [List.getElem?_toArray, List.getElem?_cons_succ, List.getElem?_cons_zero]; rfl)
          case hsx20jx6x7x12x13x18x19 => kernel_rfl
          case hfx20jx6x7x12x13x18x19 => kernel_rfl
          case hrx20jx6x7x12x13x18x19 => kernel_rfl
          case hQx20jx6x7x12x13x18x19 => exact fun _ _ _ h => h
          case hwx20jx6x7x12x13x18x19 => rfl
          case hyx20jx6x7x12x13x18x19 =>
            intro W hW
            have bb := b26f lf yK yV yQ kK kV kQ dK dV dQ W
            go_simp
            try with_reducible rfl
          simp only [Act.put, List.setIfInBounds_toArray, List.set_cons_succ, List.set_cons_zero]
          refine wpAnyH_ready (rs := [21]) (by kernel_rfl) (by simp) ?_
          refine' (AllReadyH.cons ?hoc21jx6x7x12x13x18x19 (fun K hK => ?stc21jx6x7x12x13x18x19) AllReadyH.nil)
          case hoc21jx6x7x12x13x18x19 => (simp only [List.getElem?_toArray, List.getElem?_cons_succ, List.getElem?_cons_zero]; rfl)
          refine step_store_row rfl 26 (.tmp 4) (.tmp 34) rfl (w.heap.size + 2) #[.bool lf, .slice yK kK dK, .slice yV kV dV, .slice yQ kQ dQ] rfl rfl 26 _ G2.out (size26' _ _ _ _) (by rw [Z4.out]; rfl) (by simp [Value.oneCell']) ?_
          have q2 := setRow_heap Wjx6x7x12x13x18x19 (w.heap.size + 2) _ #[.bool lf, .slice yK kK dK, .slice yV kV dV, .slice yQ kQ dQ] 26 _ G2.out
          have rK := RK.out.setRow (cs := #[.bool lf, .slice yK kK dK, .slice yV kV dV, .slice yQ kQ dQ]) FK.out (Nat.lt_succ_self _)
          have rV := RV.out.setRow (cs := #[.bool lf, .slice yK kK dK, .slice yV kV dV, .slice yQ kQ dQ]) FV.out (Nat.lt_succ_self _)
          have rQ := RQ.out.setRow (cs := #[.bool lf, .slice yK kK dK, .slice yV kV dV, .slice yQ kQ dQ]) FQ.out (Nat.lt_succ_self _)
          have hS2 := hS.1.trans (below_row (B := w.heap.size) Wjx6x7x12x13x18x19 #[.bool lf, .slice yK kK dK, .slice yV kV dV, .slice yQ kQ dQ] (show w.heap.size ≤ w.heap.size + 2 by omega))
          have hS3 := (setRow_other Wjx6x7x12x13x18x19 (w.heap.size + 2) w.heap.size #[.bool lf, .slice yK kK dK, .slice yV kV dV, .slice yQ kQ dQ] (by omega)).trans hS.2.1
          have hS4 := (setRow_other Wjx6x7x12x13x18x19 (w.heap.size + 2) (w.heap.size + 1) #[.bool lf, .slice yK kK dK, .slice yV kV dV, .slice yQ kQ dQ] (by omega)).trans hS.2.2
          refine hK.out _ _ ⟨hS2, hS3, hS4⟩ (fun hHeld => ?_)
          clear hK K hHeld hS hS3 hS4
          simp only [Act.put]
          generalize Wjx6x7x12x13x18x19.setRow (w.heap.size + 2) #[.bool lf, .slice yK kK dK, .slice yV kV dV, .slice yQ kQ dQ] = wf at *
          refine wpAnyH_done (by kernel_rfl) ?_ _
          try go_wp2_with fail
          exact bodyPost_ret (v := .agg #[.bool lf, .slice yK kK dK, .slice yV kV dV, .slice yQ kQ dQ]) (results_cell_row Try.results21 _ _ (w.heap.size + 2) 26 _ (0, 0) _ rfl q2 Try.underlying26 rfl (size26' _ _ _ _)) rfl
            ⟨_, rfl, FIN.out _ _ _ _ rK rV rQ, ⟨lf, yK, kK, dK, yV, kV, dV, yQ, kQ, dQ, rfl, ⟨MK.out, MV.out, MQ.out⟩, fresh_le FK.out (by omega), fresh_le FV.out (by omega), fresh_le FQ.out (by omega)⟩, hS2⟩
        case stc18jx6x7x12 =>
          go_simp
          have hb := (Below.refl Wjx6x7x12.heap.size Wjx6x7x12).alloc (Nat.le_refl _) (.cells #[.slice x3 n3 c3, .slice y3 o3 d3] 24)
          refine hK.out _ _ (⟨hS.1.trans (hb.mono hS.1.size), (hb.block _ (blk_lt hS.2.1)).trans hS.2.1, (hb.block _ (blk_lt hS.2.2)).trans hS.2.2⟩) (fun hHeld => ?_)
          clear hK K
          try simp only [Act.put, List.setIfInBounds_toArray, List.set_cons_succ, List.set_cons_zero]
          have qPQ := heap_alloc_new Wjx6x7x12 (.cells #[.slice x3 n3 c3, .slice y3 o3 d3] 24)
          have hpQ := hS.1.size
          have qEK := EK.out.below hb
          have qEV := EV.out.below hb
          have qEQ := EQ.out.below hb
          have qDK := DK.out.below hb
          have qDV := DV.out.below hb
          have qDQ := DQ.out.below hb
          have qG2 := (hb.block _ (blk_lt G2.out)).trans G2.out
          have nepQpK : Wjx6x7x12.heap.size ≠ pK := by have := blk_lt PK.out; omega
          have qPK := (hb.block _ (blk_lt PK.out)).trans PK.out
          have qRK := RK.out.below hb
          have nepQpV : Wjx6x7x12.heap.size ≠ pV := by have := blk_lt PV.out; omega
          have qPV := (hb.block _ (blk_lt PV.out)).trans PV.out
          clear hS
          have hS := hHeld
          clear hHeld
          clear hb
          clear EK EV EQ DK DV DQ G2 PK RK PV
          generalize Wjx6x7x12.alloc (.cells #[.slice x3 n3 c3, .slice y3 o3 d3] 24) = Wjx6x7x12x18 at *
          generalize Wjx6x7x12.heap.size = pQ at *
          have EK := Lib.hid qEK
          have EV := Lib.hid qEV
          have EQ := Lib.hid qEQ
          have DK := Lib.hid qDK
          have DV := Lib.hid qDV
          have DQ := Lib.hid qDQ
          have G2 := Lib.hid qG2
          have PK := Lib.hid qPK
          have RK := Lib.hid qRK
          have PV := Lib.hid qPV
          have PQ := Lib.hid qPQ
          clear qEK qEV qEQ qDK qDV qDQ qG2 qPK qRK qPV qPQ
          refine wpAnyH_ready (rs := [13]) (by kernel_rfl) (by simp) ?_
          refine' (AllReadyH.cons ?hoc13jx6x7x12x18 (fun K hK => ?stc13jx6x7x12x18) AllReadyH.nil)
          case hoc13jx6x7x12x18 => (simp only [List.getElem?_toArray, List.getElem?_cons_succ, List.getElem?_cons_zero]; rfl)
          have hg1 := blk_lt G2.out
          go_simp
          refine (VC.out Wjx6x7x12x18 _ PV.out EV.out DV.out).mono ?_
          rintro e Wjx6x7x12x18x13 ⟨vV, rfl, hes, ⟨yV, kV, dV, rfl, hle, _⟩, hfr, hb⟩
          have EK := Lib.hid (EK.out.below hb)
          have EV := Lib.hid (EV.out.below hb)
          have EQ := Lib.hid (EQ.out.below hb)
          have DK := Lib.hid (DK.out.below hb)
          have DV := Lib.hid (DV.out.below hb)
          have DQ := Lib.hid (DQ.out.below hb)
          have G2 := Lib.hid ((hb.block _ (blk_lt G2.out)).trans G2.out)
          have PK := Lib.hid ((hb.block _ (blk_lt PK.out)).trans PK.out)
          have RK := Lib.hid (RK.out.below hb)
          have PV := Lib.hid ((hb.block _ (blk_lt PV.out)).trans PV.out)
          have PQ := Lib.hid ((hb.block _ (blk_lt PQ.out)).trans PQ.out)
          have MV := Lib.hid hle
          have FV := Lib.hid (fresh_le hfr hg1)
          have RV := Lib.hid hes
          clear hes hle hfr hg1
          go_wp2_with fail
          refine hK.out _ _ (⟨hS.1.trans (hb.mono hS.1.size), (hb.block _ (blk_lt hS.2.1)).trans hS.2.1, (hb.block _ (blk_lt hS.2.2)).trans hS.2.2⟩) (fun hHeld => ?_)
          clear hK K
          try simp only [Act.put, List.setIfInBounds_toArray, List.set_cons_succ, List.set_cons_zero]
          clear hS
          have hS := hHeld
          clear hHeld
          clear hb
          refine wpAnyH_ready (rs := [19]) (by kernel_rfl) (by simp) ?_
          refine' (AllReadyH.cons ?hoc19jx6x7x12x18x13 (fun K hK => ?stc19jx6x7x12x18x13) AllReadyH.nil)
          case hoc19jx6x7x12x18x13 => (simp only [List.getElem?_toArray, List.getElem?_cons_succ, List.getElem?_cons_zero]; rfl)
          have hg1 := blk_lt G2.out
          go_simp
          refine (QC.out Wjx6x7x12x18x13 _ PQ.out EQ.out DQ.out).mono ?_
          rintro e Wjx6x7x12x18x13x19 ⟨vQ, rfl, hes, ⟨yQ, kQ, dQ, rfl, hle, _⟩, hfr, hb⟩
          have EK := Lib.hid (EK.out.below hb)
          have EV := Lib.hid (EV.out.below hb)
          have EQ := Lib.hid (EQ.out.below hb)
          have DK := Lib.hid (DK.out.below hb)
          have DV := Lib.hid (DV.out.below hb)
          have DQ := Lib.hid (DQ.out.below hb)
          have G2 := Lib.hid ((hb.block _ (blk_lt G2.out)).trans G2.out)
          have PK := Lib.hid ((hb.block _ (blk_lt PK.out)).trans PK.out)
          have RK := Lib.hid (RK.out.below hb)
          have PV := Lib.hid ((hb.block _ (blk_lt PV.out)).trans PV.out)
          have PQ := Lib.hid ((hb.block _ (blk_lt PQ.out)).trans PQ.out)
          have RV := Lib.hid (RV.out.below hb)
          have MQ := Lib.hid hle
          have FQ := Lib.hid (fresh_le hfr hg1)
          have RQ := Lib.hid hes
          clear hes hle hfr hg1
          go_wp2_with fail
          refine hK.out _ _ (⟨hS.1.trans (hb.mono hS.1.size), (hb.block _ (blk_lt hS.2.1)).trans hS.2.1, (hb.block _ (blk_lt hS.2.2)).trans hS.2.2⟩) (fun hHeld => ?_)
          clear hK K
          try simp only [Act.put, List.setIfInBounds_toArray, List.set_cons_succ, List.set_cons_zero]
          clear hS
          have hS := hHeld
          clear hHeld
          clear hb
          refine' wpAnyH_take (i := 20) ?h1x20jx6x7x12x18x13x19 ?hsx20jx6x7x12x18x13x19 ?hfx20jx6x7x12x18x13x19 ?hrx20jx6x7x12x18x13x19 ?hQx20jx6x7x12x18x13x19 (Or.inl ⟨?hwx20jx6x7x12x18x13x19, ?hyx20jx6x7x12x18x13x19⟩) hS ?restx20jx6x7x12x18x13x19
          case h1x20jx6x7x12x18x13x19 => (simp only [List.getElem?_toArray, List.getElem?_cons_succ, List.getElem?_cons_zero]; rfl)
          case hsx20jx6x7x12x18x13x19 => kernel_rfl
          case hfx20jx6x7x12x18x13x19 => kernel_rfl
          case hrx20jx6x7x12x18x13x19 => kernel_rfl
          case hQx20jx6x7x12x18x13x19 => exact fun _ _ _ h => h
          case hwx20jx6x7x12x18x13x19 => rfl
          case hyx20jx6x7x12x18x13x19 =>
            intro W hW
            have bb := b26f lf yK yV yQ kK kV kQ dK dV dQ W
            go_simp
            try with_reducible rfl
          simp only [Act.put, List.setIfInBounds_toArray, List.set_cons_succ, List.set_cons_zero]
          refine wpAnyH_ready (rs := [21]) (by kernel_rfl) (by simp) ?_
          refine' (AllReadyH.cons ?hoc21jx6x7x12x18x13x19 (fun K hK => ?stc21jx6x7x12x18x13x19) AllReadyH.nil)
          case hoc21jx6x7x12x18x13x19 => (simp only [List.getElem?_toArray, List.getElem?_cons_succ, List.getElem?_cons_zero]; rfl)
          refine step_store_row rfl 26 (.tmp 4) (.tmp 34) rfl (w.heap.size + 2) #[.bool lf, .slice yK kK dK, .slice yV kV dV, .slice yQ kQ dQ] rfl rfl 26 _ G2.out (size26' _ _ _ _) (by rw [Z4.out]; rfl) (by simp [Value.oneCell']) ?_
          have q2 := setRow_heap Wjx6x7x12x18x13x19 (w.heap.size + 2) _ #[.bool lf, .slice yK kK dK, .slice yV kV dV, .slice yQ kQ dQ] 26 _ G2.out
          have rK := RK.out.setRow (cs := #[.bool lf, .slice yK kK dK, .slice yV kV dV, .slice yQ kQ dQ]) FK.out (Nat.lt_succ_self _)
          have rV := RV.out.setRow (cs := #[.bool lf, .slice yK kK dK, .slice yV kV dV, .slice yQ kQ dQ]) FV.out (Nat.lt_succ_self _)
          have rQ := RQ.out.setRow (cs := #[.bool lf, .slice yK kK dK, .slice yV kV dV, .slice yQ kQ dQ]) FQ.out (Nat.lt_succ_self _)
          have hS2 := hS.1.trans (below_row (B := w.heap.size) Wjx6x7x12x18x13x19 #[.bool lf, .slice yK kK dK, .slice yV kV dV, .slice yQ kQ dQ] (show w.heap.size ≤ w.heap.size + 2 by omega))
          have hS3 := (setRow_other Wjx6x7x12x18x13x19 (w.heap.size + 2) w.heap.size #[.bool lf, .slice yK kK dK, .slice yV kV dV, .slice yQ kQ dQ] (by omega)).trans hS.2.1
          have hS4 := (setRow_other Wjx6x7x12x18x13x19 (w.heap.size + 2) (w.heap.size + 1) #[.bool lf, .slice yK kK dK, .slice yV kV dV, .slice yQ kQ dQ] (by omega)).trans hS.2.2
          refine hK.out _ _ ⟨hS2, hS3, hS4⟩ (fun hHeld => ?_)
          clear hK K hHeld hS hS3 hS4
          simp only [Act.put]
          generalize Wjx6x7x12x18x13x19.setRow (w.heap.size + 2) #[.bool lf, .slice yK kK dK, .slice yV kV dV, .slice yQ kQ dQ] = wf at *
          refine wpAnyH_done (by kernel_rfl) ?_ _
          try go_wp2_with fail
          exact bodyPost_ret (v := .agg #[.bool lf, .slice yK kK dK, .slice yV kV dV, .slice yQ kQ dQ]) (results_cell_row Try.results21 _ _ (w.heap.size + 2) 26 _ (0, 0) _ rfl q2 Try.underlying26 rfl (size26' _ _ _ _)) rfl
            ⟨_, rfl, FIN.out _ _ _ _ rK rV rQ, ⟨lf, yK, kK, dK, yV, kV, dV, yQ, kQ, dQ, rfl, ⟨MK.out, MV.out, MQ.out⟩, fresh_le FK.out (by omega), fresh_le FV.out (by omega), fresh_le FQ.out (by omega)⟩, hS2⟩
      case stc18jx6x7 =>
        go_simp
        have hb := (Below.refl Wjx6x7.heap.size Wjx6x7).alloc (Nat.le_refl _) (.cells #[.slice x3 n3 c3, .slice y3 o3 d3] 24)
        refine hK.out _ _ (⟨hS.1.trans (hb.mono hS.1.size), (hb.block _ (blk_lt hS.2.1)).trans hS.2.1, (hb.block _ (blk_lt hS.2.2)).trans hS.2.2⟩) (fun hHeld => ?_)
        clear hK K
        try simp only [Act.put, List.setIfInBounds_toArray, List.set_cons_succ, List.set_cons_zero]
        have qPQ := heap_alloc_new Wjx6x7 (.cells #[.slice x3 n3 c3, .slice y3 o3 d3] 24)
        have hpQ := hS.1.size
        have qEK := EK.out.below hb
        have qEV := EV.out.below hb
        have qEQ := EQ.out.below hb
        have qDK := DK.out.below hb
        have qDV := DV.out.below hb
        have qDQ := DQ.out.below hb
        have qG2 := (hb.block _ (blk_lt G2.out)).trans G2.out
        have nepQpK : Wjx6x7.heap.size ≠ pK := by have := blk_lt PK.out; omega
        have qPK := (hb.block _ (blk_lt PK.out)).trans PK.out
        have qRK := RK.out.below hb
        clear hS
        have hS := hHeld
        clear hHeld
        clear hb
        clear EK EV EQ DK DV DQ G2 PK RK
        generalize Wjx6x7.alloc (.cells #[.slice x3 n3 c3, .slice y3 o3 d3] 24) = Wjx6x7x18 at *
        generalize Wjx6x7.heap.size = pQ at *
        have EK := Lib.hid qEK
        have EV := Lib.hid qEV
        have EQ := Lib.hid qEQ
        have DK := Lib.hid qDK
        have DV := Lib.hid qDV
        have DQ := Lib.hid qDQ
        have G2 := Lib.hid qG2
        have PK := Lib.hid qPK
        have RK := Lib.hid qRK
        have PQ := Lib.hid qPQ
        clear qEK qEV qEQ qDK qDV qDQ qG2 qPK qRK qPQ
        refine wpAnyH_ready (rs := [12]) (by kernel_rfl) (by simp) ?_
        refine' (AllReadyH.cons ?hoc12jx6x7x18 (fun K hK => ?stc12jx6x7x18) AllReadyH.nil)
        case hoc12jx6x7x18 => (simp only [List.getElem?_toArray, List.getElem?_cons_succ, List.getElem?_cons_zero]; rfl)
        go_simp
        have hb := (Below.refl Wjx6x7x18.heap.size Wjx6x7x18).alloc (Nat.le_refl _) (.cells #[.slice x2 n2 c2, .slice y2 o2 d2] 23)
        refine hK.out _ _ (⟨hS.1.trans (hb.mono hS.1.size), (hb.block _ (blk_lt hS.2.1)).trans hS.2.1, (hb.block _ (blk_lt hS.2.2)).trans hS.2.2⟩) (fun hHeld => ?_)
        clear hK K
        try simp only [Act.put, List.setIfInBounds_toArray, List.set_cons_succ, List.set_cons_zero]
        have qPV := heap_alloc_new Wjx6x7x18 (.cells #[.slice x2 n2 c2, .slice y2 o2 d2] 23)
        have hpV := hS.1.size
        have qEK := EK.out.below hb
        have qEV := EV.out.below hb
        have qEQ := EQ.out.below hb
        have qDK := DK.out.below hb
        have qDV := DV.out.below hb
        have qDQ := DQ.out.below hb
        have qG2 := (hb.block _ (blk_lt G2.out)).trans G2.out
        have nepVpK : Wjx6x7x18.heap.size ≠ pK := by have := blk_lt PK.out; omega
        have qPK := (hb.block _ (blk_lt PK.out)).trans PK.out
        have qRK := RK.out.below hb
        have nepVpQ : Wjx6x7x18.heap.size ≠ pQ := by have := blk_lt PQ.out; omega
        have qPQ := (hb.block _ (blk_lt PQ.out)).trans PQ.out
        clear hS
        have hS := hHeld
        clear hHeld
        clear hb
        clear EK EV EQ DK DV DQ G2 PK RK PQ
        generalize Wjx6x7x18.alloc (.cells #[.slice x2 n2 c2, .slice y2 o2 d2] 23) = Wjx6x7x18x12 at *
        generalize Wjx6x7x18.heap.size = pV at *
        have EK := Lib.hid qEK
        have EV := Lib.hid qEV
        have EQ := Lib.hid qEQ
        have DK := Lib.hid qDK
        have DV := Lib.hid qDV
        have DQ := Lib.hid qDQ
        have G2 := Lib.hid qG2
        have PK := Lib.hid qPK
        have RK := Lib.hid qRK
        have PQ := Lib.hid qPQ
        have PV := Lib.hid qPV
        clear qEK qEV qEQ qDK qDV qDQ qG2 qPK qRK qPQ qPV
        refine wpAnyH_ready (rs := [13]) (by kernel_rfl) (by simp) ?_
        refine' (AllReadyH.cons ?hoc13jx6x7x18x12 (fun K hK => ?stc13jx6x7x18x12) AllReadyH.nil)
        case hoc13jx6x7x18x12 => (simp only [List.getElem?_toArray, List.getElem?_cons_succ, List.getElem?_cons_zero]; rfl)
        have hg1 := blk_lt G2.out
        go_simp
        refine (VC.out Wjx6x7x18x12 _ PV.out EV.out DV.out).mono ?_
        rintro e Wjx6x7x18x12x13 ⟨vV, rfl, hes, ⟨yV, kV, dV, rfl, hle, _⟩, hfr, hb⟩
        have EK := Lib.hid (EK.out.below hb)
        have EV := Lib.hid (EV.out.below hb)
        have EQ := Lib.hid (EQ.out.below hb)
        have DK := Lib.hid (DK.out.below hb)
        have DV := Lib.hid (DV.out.below hb)
        have DQ := Lib.hid (DQ.out.below hb)
        have G2 := Lib.hid ((hb.block _ (blk_lt G2.out)).trans G2.out)
        have PK := Lib.hid ((hb.block _ (blk_lt PK.out)).trans PK.out)
        have RK := Lib.hid (RK.out.below hb)
        have PQ := Lib.hid ((hb.block _ (blk_lt PQ.out)).trans PQ.out)
        have PV := Lib.hid ((hb.block _ (blk_lt PV.out)).trans PV.out)
        have MV := Lib.hid hle
        have FV := Lib.hid (fresh_le hfr hg1)
        have RV := Lib.hid hes
        clear hes hle hfr hg1
        go_wp2_with fail
        refine hK.out _ _ (⟨hS.1.trans (hb.mono hS.1.size), (hb.block _ (blk_lt hS.2.1)).trans hS.2.1, (hb.block _ (blk_lt hS.2.2)).trans hS.2.2⟩) (fun hHeld => ?_)
        clear hK K
        try simp only [Act.put, List.setIfInBounds_toArray, List.set_cons_succ, List.set_cons_zero]
        clear hS
        have hS := hHeld
        clear hHeld
        clear hb
        refine wpAnyH_ready (rs := [19]) (by kernel_rfl) (by simp) ?_
        refine' (AllReadyH.cons ?hoc19jx6x7x18x12x13 (fun K hK => ?stc19jx6x7x18x12x13) AllReadyH.nil)
        case hoc19jx6x7x18x12x13 => (simp only [List.getElem?_toArray, List.getElem?_cons_succ, List.getElem?_cons_zero]; rfl)
        have hg1 := blk_lt G2.out
        go_simp
        refine (QC.out Wjx6x7x18x12x13 _ PQ.out EQ.out DQ.out).mono ?_
        rintro e Wjx6x7x18x12x13x19 ⟨vQ, rfl, hes, ⟨yQ, kQ, dQ, rfl, hle, _⟩, hfr, hb⟩
        have EK := Lib.hid (EK.out.below hb)
        have EV := Lib.hid (EV.out.below hb)
        have EQ := Lib.hid (EQ.out.below hb)
        have DK := Lib.hid (DK.out.below hb)
        have DV := Lib.hid (DV.out.below hb)
        have DQ := Lib.hid (DQ.out.below hb)
        have G2 := Lib.hid ((hb.block _ (blk_lt G2.out)).trans G2.out)
        have PK := Lib.hid ((hb.block _ (blk_lt PK.out)).trans PK.out)
        have RK := Lib.hid (RK.out.below hb)
        have PQ := Lib.hid ((hb.block _ (blk_lt PQ.out)).trans PQ.out)
        have PV := Lib.hid ((hb.block _ (blk_lt PV.out)).trans PV.out)
        have RV := Lib.hid (RV.out.below hb)
        have MQ := Lib.hid hle
        have FQ := Lib.hid (fresh_le hfr hg1)
        have RQ := Lib.hid hes
        clear hes hle hfr hg1
        go_wp2_with fail
        refine hK.out _ _ (⟨hS.1.trans (hb.mono hS.1.size), (hb.block _ (blk_lt hS.2.1)).trans hS.2.1, (hb.block _ (blk_lt hS.2.2)).trans hS.2.2⟩) (fun hHeld => ?_)
        clear hK K
        try simp only [Act.put, List.setIfInBounds_toArray, List.set_cons_succ, List.set_cons_zero]
        clear hS
        have hS := hHeld
        clear hHeld
        clear hb
        refine' wpAnyH_take (i := 20) ?h1x20jx6x7x18x12x13x19 ?hsx20jx6x7x18x12x13x19 ?hfx20jx6x7x18x12x13x19 ?hrx20jx6x7x18x12x13x19 ?hQx20jx6x7x18x12x13x19 (Or.inl ⟨?hwx20jx6x7x18x12x13x19, ?hyx20jx6x7x18x12x13x19⟩) hS ?restx20jx6x7x18x12x13x19
        case h1x20jx6x7x18x12x13x19 => (simp only [List.getElem?_toArray, List.getElem?_cons_succ, List.getElem?_cons_zero]; rfl)
        case hsx20jx6x7x18x12x13x19 => kernel_rfl
        case hfx20jx6x7x18x12x13x19 => kernel_rfl
        case hrx20jx6x7x18x12x13x19 => kernel_rfl
        case hQx20jx6x7x18x12x13x19 => exact fun _ _ _ h => h
        case hwx20jx6x7x18x12x13x19 => rfl
        case hyx20jx6x7x18x12x13x19 =>
          intro W hW
          have bb := b26f lf yK yV yQ kK kV kQ dK dV dQ W
          go_simp
          try with_reducible rfl
        simp only [Act.put, List.setIfInBounds_toArray, List.set_cons_succ, List.set_cons_zero]
        refine wpAnyH_ready (rs := [21]) (by kernel_rfl) (by simp) ?_
        refine' (AllReadyH.cons ?hoc21jx6x7x18x12x13x19 (fun K hK => ?stc21jx6x7x18x12x13x19) AllReadyH.nil)
        case hoc21jx6x7x18x12x13x19 => (simp only [List.getElem?_toArray, List.getElem?_cons_succ, List.getElem?_cons_zero]; rfl)
        refine step_store_row rfl 26 (.tmp 4) (.tmp 34) rfl (w.heap.size + 2) #[.bool lf, .slice yK kK dK, .slice yV kV dV, .slice yQ kQ dQ] rfl rfl 26 _ G2.out (size26' _ _ _ _) (by rw [Z4.out]; rfl) (by simp [Value.oneCell']) ?_
        have q2 := setRow_heap Wjx6x7x18x12x13x19 (w.heap.size + 2) _ #[.bool lf, .slice yK kK dK, .slice yV kV dV, .slice yQ kQ dQ] 26 _ G2.out
        have rK := RK.out.setRow (cs := #[.bool lf, .slice yK kK dK, .slice yV kV dV, .slice yQ kQ dQ]) FK.out (Nat.lt_succ_self _)
        have rV := RV.out.setRow (cs := #[.bool lf, .slice yK kK dK, .slice yV kV dV, .slice yQ kQ dQ]) FV.out (Nat.lt_succ_self _)
        have rQ := RQ.out.setRow (cs := #[.bool lf, .slice yK kK dK, .slice yV kV dV, .slice yQ kQ dQ]) FQ.out (Nat.lt_succ_self _)
        have hS2 := hS.1.trans (below_row (B := w.heap.size) Wjx6x7x18x12x13x19 #[.bool lf, .slice yK kK dK, .slice yV kV dV, .slice yQ kQ dQ] (show w.heap.size ≤ w.heap.size + 2 by omega))
        have hS3 := (setRow_other Wjx6x7x18x12x13x19 (w.heap.size + 2) w.heap.size #[.bool lf, .slice yK kK dK, .slice yV kV dV, .slice yQ kQ dQ] (by omega)).trans hS.2.1
        have hS4 := (setRow_other Wjx6x7x18x12x13x19 (w.heap.size + 2) (w.heap.size + 1) #[.bool lf, .slice yK kK dK, .slice yV kV dV, .slice yQ kQ dQ] (by omega)).trans hS.2.2
        refine hK.out _ _ ⟨hS2, hS3, hS4⟩ (fun hHeld => ?_)
        clear hK K hHeld hS hS3 hS4
        simp only [Act.put]
        generalize Wjx6x7x18x12x13x19.setRow (w.heap.size + 2) #[.bool lf, .slice yK kK dK, .slice yV kV dV, .slice yQ kQ dQ] = wf at *
        refine wpAnyH_done (by kernel_rfl) ?_ _
        try go_wp2_with fail
        exact bodyPost_ret (v := .agg #[.bool lf, .slice yK kK dK, .slice yV kV dV, .slice yQ kQ dQ]) (results_cell_row Try.results21 _ _ (w.heap.size + 2) 26 _ (0, 0) _ rfl q2 Try.underlying26 rfl (size26' _ _ _ _)) rfl
          ⟨_, rfl, FIN.out _ _ _ _ rK rV rQ, ⟨lf, yK, kK, dK, yV, kV, dV, yQ, kQ, dQ, rfl, ⟨MK.out, MV.out, MQ.out⟩, fresh_le FK.out (by omega), fresh_le FV.out (by omega), fresh_le FQ.out (by omega)⟩, hS2⟩
    case stc12jx6 =>
      go_simp
      have hb := (Below.refl Wjx6.heap.size Wjx6).alloc (Nat.le_refl _) (.cells #[.slice x2 n2 c2, .slice y2 o2 d2] 23)
      refine hK.out _ _ (⟨hS.1.trans (hb.mono hS.1.size), (hb.block _ (blk_lt hS.2.1)).trans hS.2.1, (hb.block _ (blk_lt hS.2.2)).trans hS.2.2⟩) (fun hHeld => ?_)
      clear hK K
      try simp only [Act.put, List.setIfInBounds_toArray, List.set_cons_succ, List.set_cons_zero]
      have qPV := heap_alloc_new Wjx6 (.cells #[.slice x2 n2 c2, .slice y2 o2 d2] 23)
      have hpV := hS.1.size
      have qEK := EK.out.below hb
      have qEV := EV.out.below hb
      have qEQ := EQ.out.below hb
      have qDK := DK.out.below hb
      have qDV := DV.out.below hb
      have qDQ := DQ.out.below hb
      have qG2 := (hb.block _ (blk_lt G2.out)).trans G2.out
      have nepVpK : Wjx6.heap.size ≠ pK := by have := blk_lt PK.out; omega
      have qPK := (hb.block _ (blk_lt PK.out)).trans PK.out
      clear hS
      have hS := hHeld
      clear hHeld
      clear hb
      clear EK EV EQ DK DV DQ G2 PK
      generalize Wjx6.alloc (.cells #[.slice x2 n2 c2, .slice y2 o2 d2] 23) = Wjx6x12 at *
      generalize Wjx6.heap.size = pV at *
      have EK := Lib.hid qEK
      have EV := Lib.hid qEV
      have EQ := Lib.hid qEQ
      have DK := Lib.hid qDK
      have DV := Lib.hid qDV
      have DQ := Lib.hid qDQ
      have G2 := Lib.hid qG2
      have PK := Lib.hid qPK
      have PV := Lib.hid qPV
      clear qEK qEV qEQ qDK qDV qDQ qG2 qPK qPV
      refine wpAnyH_ready (rs := [7, 18]) (by kernel_rfl) (by simp) ?_
      refine' (AllReadyH.cons ?hoc7jx6x12 (fun K hK => ?stc7jx6x12) (AllReadyH.cons ?hoc18jx6x12 (fun K hK => ?stc18jx6x12) AllReadyH.nil))
      case hoc7jx6x12 => (simp only [List.getElem?_toArray, List.getElem?_cons_succ, List.getElem?_cons_zero]; rfl)
      case hoc18jx6x12 => (simp only [List.getElem?_toArray, List.getElem?_cons_succ, List.getElem?_cons_zero]; rfl)
      case stc7jx6x12 =>
        have hg1 := blk_lt G2.out
        go_simp
        refine (KC.out Wjx6x12 _ PK.out EK.out DK.out).mono ?_
        rintro e Wjx6x12x7 ⟨vK, rfl, hes, ⟨yK, kK, dK, rfl, hle, _⟩, hfr, hb⟩
        have EK := Lib.hid (EK.out.below hb)
        have EV := Lib.hid (EV.out.below hb)
        have EQ := Lib.hid (EQ.out.below hb)
        have DK := Lib.hid (DK.out.below hb)
        have DV := Lib.hid (DV.out.below hb)
        have DQ := Lib.hid (DQ.out.below hb)
        have G2 := Lib.hid ((hb.block _ (blk_lt G2.out)).trans G2.out)
        have PK := Lib.hid ((hb.block _ (blk_lt PK.out)).trans PK.out)
        have PV := Lib.hid ((hb.block _ (blk_lt PV.out)).trans PV.out)
        have MK := Lib.hid hle
        have FK := Lib.hid (fresh_le hfr hg1)
        have RK := Lib.hid hes
        clear hes hle hfr hg1
        go_wp2_with fail
        refine hK.out _ _ (⟨hS.1.trans (hb.mono hS.1.size), (hb.block _ (blk_lt hS.2.1)).trans hS.2.1, (hb.block _ (blk_lt hS.2.2)).trans hS.2.2⟩) (fun hHeld => ?_)
        clear hK K
        try simp only [Act.put, List.setIfInBounds_toArray, List.set_cons_succ, List.set_cons_zero]
        clear hS
        have hS := hHeld
        clear hHeld
        clear hb
        refine wpAnyH_ready (rs := [13, 18]) (by kernel_rfl) (by simp) ?_
        refine' (AllReadyH.cons ?hoc13jx6x12x7 (fun K hK => ?stc13jx6x12x7) (AllReadyH.cons ?hoc18jx6x12x7 (fun K hK => ?stc18jx6x12x7) AllReadyH.nil))
        case hoc13jx6x12x7 => (simp only [List.getElem?_toArray, List.getElem?_cons_succ, List.getElem?_cons_zero]; rfl)
        case hoc18jx6x12x7 => (simp only [List.getElem?_toArray, List.getElem?_cons_succ, List.getElem?_cons_zero]; rfl)
        case stc13jx6x12x7 =>
          have hg1 := blk_lt G2.out
          go_simp
          refine (VC.out Wjx6x12x7 _ PV.out EV.out DV.out).mono ?_
          rintro e Wjx6x12x7x13 ⟨vV, rfl, hes, ⟨yV, kV, dV, rfl, hle, _⟩, hfr, hb⟩
          have EK := Lib.hid (EK.out.below hb)
          have EV := Lib.hid (EV.out.below hb)
          have EQ := Lib.hid (EQ.out.below hb)
          have DK := Lib.hid (DK.out.below hb)
          have DV := Lib.hid (DV.out.below hb)
          have DQ := Lib.hid (DQ.out.below hb)
          have G2 := Lib.hid ((hb.block _ (blk_lt G2.out)).trans G2.out)
          have PK := Lib.hid ((hb.block _ (blk_lt PK.out)).trans PK.out)
          have PV := Lib.hid ((hb.block _ (blk_lt PV.out)).trans PV.out)
          have RK := Lib.hid (RK.out.below hb)
          have MV := Lib.hid hle
          have FV := Lib.hid (fresh_le hfr hg1)
          have RV := Lib.hid hes
          clear hes hle hfr hg1
          go_wp2_with fail
          refine hK.out _ _ (⟨hS.1.trans (hb.mono hS.1.size), (hb.block _ (blk_lt hS.2.1)).trans hS.2.1, (hb.block _ (blk_lt hS.2.2)).trans hS.2.2⟩) (fun hHeld => ?_)
          clear hK K
          try simp only [Act.put, List.setIfInBounds_toArray, List.set_cons_succ, List.set_cons_zero]
          clear hS
          have hS := hHeld
          clear hHeld
          clear hb
          refine wpAnyH_ready (rs := [18]) (by kernel_rfl) (by simp) ?_
          refine' (AllReadyH.cons ?hoc18jx6x12x7x13 (fun K hK => ?stc18jx6x12x7x13) AllReadyH.nil)
          case hoc18jx6x12x7x13 => (simp only [List.getElem?_toArray, List.getElem?_cons_succ, List.getElem?_cons_zero]; rfl)
          go_simp
          have hb := (Below.refl Wjx6x12x7x13.heap.size Wjx6x12x7x13).alloc (Nat.le_refl _) (.cells #[.slice x3 n3 c3, .slice y3 o3 d3] 24)
          refine hK.out _ _ (⟨hS.1.trans (hb.mono hS.1.size), (hb.block _ (blk_lt hS.2.1)).trans hS.2.1, (hb.block _ (blk_lt hS.2.2)).trans hS.2.2⟩) (fun hHeld => ?_)
          clear hK K
          try simp only [Act.put, List.setIfInBounds_toArray, List.set_cons_succ, List.set_cons_zero]
          have qPQ := heap_alloc_new Wjx6x12x7x13 (.cells #[.slice x3 n3 c3, .slice y3 o3 d3] 24)
          have hpQ := hS.1.size
          have qEK := EK.out.below hb
          have qEV := EV.out.below hb
          have qEQ := EQ.out.below hb
          have qDK := DK.out.below hb
          have qDV := DV.out.below hb
          have qDQ := DQ.out.below hb
          have qG2 := (hb.block _ (blk_lt G2.out)).trans G2.out
          have nepQpK : Wjx6x12x7x13.heap.size ≠ pK := by have := blk_lt PK.out; omega
          have qPK := (hb.block _ (blk_lt PK.out)).trans PK.out
          have nepQpV : Wjx6x12x7x13.heap.size ≠ pV := by have := blk_lt PV.out; omega
          have qPV := (hb.block _ (blk_lt PV.out)).trans PV.out
          have qRK := RK.out.below hb
          have qRV := RV.out.below hb
          clear hS
          have hS := hHeld
          clear hHeld
          clear hb
          clear EK EV EQ DK DV DQ G2 PK PV RK RV
          generalize Wjx6x12x7x13.alloc (.cells #[.slice x3 n3 c3, .slice y3 o3 d3] 24) = Wjx6x12x7x13x18 at *
          generalize Wjx6x12x7x13.heap.size = pQ at *
          have EK := Lib.hid qEK
          have EV := Lib.hid qEV
          have EQ := Lib.hid qEQ
          have DK := Lib.hid qDK
          have DV := Lib.hid qDV
          have DQ := Lib.hid qDQ
          have G2 := Lib.hid qG2
          have PK := Lib.hid qPK
          have PV := Lib.hid qPV
          have RK := Lib.hid qRK
          have RV := Lib.hid qRV
          have PQ := Lib.hid qPQ
          clear qEK qEV qEQ qDK qDV qDQ qG2 qPK qPV qRK qRV qPQ
          refine wpAnyH_ready (rs := [19]) (by kernel_rfl) (by simp) ?_
          refine' (AllReadyH.cons ?hoc19jx6x12x7x13x18 (fun K hK => ?stc19jx6x12x7x13x18) AllReadyH.nil)
          case hoc19jx6x12x7x13x18 => (simp only [List.getElem?_toArray, List.getElem?_cons_succ, List.getElem?_cons_zero]; rfl)
          have hg1 := blk_lt G2.out
          go_simp
          refine (QC.out Wjx6x12x7x13x18 _ PQ.out EQ.out DQ.out).mono ?_
          rintro e Wjx6x12x7x13x18x19 ⟨vQ, rfl, hes, ⟨yQ, kQ, dQ, rfl, hle, _⟩, hfr, hb⟩
          have EK := Lib.hid (EK.out.below hb)
          have EV := Lib.hid (EV.out.below hb)
          have EQ := Lib.hid (EQ.out.below hb)
          have DK := Lib.hid (DK.out.below hb)
          have DV := Lib.hid (DV.out.below hb)
          have DQ := Lib.hid (DQ.out.below hb)
          have G2 := Lib.hid ((hb.block _ (blk_lt G2.out)).trans G2.out)
          have PK := Lib.hid ((hb.block _ (blk_lt PK.out)).trans PK.out)
          have PV := Lib.hid ((hb.block _ (blk_lt PV.out)).trans PV.out)
          have RK := Lib.hid (RK.out.below hb)
          have RV := Lib.hid (RV.out.below hb)
          have PQ := Lib.hid ((hb.block _ (blk_lt PQ.out)).trans PQ.out)
          have MQ := Lib.hid hle
          have FQ := Lib.hid (fresh_le hfr hg1)
          have RQ := Lib.hid hes
          clear hes hle hfr hg1
          go_wp2_with fail
          refine hK.out _ _ (⟨hS.1.trans (hb.mono hS.1.size), (hb.block _ (blk_lt hS.2.1)).trans hS.2.1, (hb.block _ (blk_lt hS.2.2)).trans hS.2.2⟩) (fun hHeld => ?_)
          clear hK K
          try simp only [Act.put, List.setIfInBounds_toArray, List.set_cons_succ, List.set_cons_zero]
          clear hS
          have hS := hHeld
          clear hHeld
          clear hb
          refine' wpAnyH_take (i := 20) ?h1x20jx6x12x7x13x18x19 ?hsx20jx6x12x7x13x18x19 ?hfx20jx6x12x7x13x18x19 ?hrx20jx6x12x7x13x18x19 ?hQx20jx6x12x7x13x18x19 (Or.inl ⟨?hwx20jx6x12x7x13x18x19, ?hyx20jx6x12x7x13x18x19⟩) hS ?restx20jx6x12x7x13x18x19
          case h1x20jx6x12x7x13x18x19 => (simp only [List.getElem?_toArray, List.getElem?_cons_succ, List.getElem?_cons_zero]; rfl)
          case hsx20jx6x12x7x13x18x19 => kernel_rfl
          case hfx20jx6x12x7x13x18x19 => kernel_rfl
          case hrx20jx6x12x7x13x18x19 => kernel_rfl
          case hQx20jx6x12x7x13x18x19 => exact fun _ _ _ h => h
          case hwx20jx6x12x7x13x18x19 => rfl
          case hyx20jx6x12x7x13x18x19 =>
            intro W hW
            have bb := b26f lf yK yV yQ kK kV kQ dK dV dQ W
            go_simp
            try with_reducible rfl
          simp only [Act.put, List.setIfInBounds_toArray, List.set_cons_succ, List.set_cons_zero]
          refine wpAnyH_ready (rs := [21]) (by kernel_rfl) (by simp) ?_
          refine' (AllReadyH.cons ?hoc21jx6x12x7x13x18x19 (fun K hK => ?stc21jx6x12x7x13x18x19) AllReadyH.nil)
          case hoc21jx6x12x7x13x18x19 => (simp only [List.getElem?_toArray, List.getElem?_cons_succ, List.getElem?_cons_zero]; rfl)
          refine step_store_row rfl 26 (.tmp 4) (.tmp 34) rfl (w.heap.size + 2) #[.bool lf, .slice yK kK dK, .slice yV kV dV, .slice yQ kQ dQ] rfl rfl 26 _ G2.out (size26' _ _ _ _) (by rw [Z4.out]; rfl) (by simp [Value.oneCell']) ?_
          have q2 := setRow_heap Wjx6x12x7x13x18x19 (w.heap.size + 2) _ #[.bool lf, .slice yK kK dK, .slice yV kV dV, .slice yQ kQ dQ] 26 _ G2.out
          have rK := RK.out.setRow (cs := #[.bool lf, .slice yK kK dK, .slice yV kV dV, .slice yQ kQ dQ]) FK.out (Nat.lt_succ_self _)
          have rV := RV.out.setRow (cs := #[.bool lf, .slice yK kK dK, .slice yV kV dV, .slice yQ kQ dQ]) FV.out (Nat.lt_succ_self _)
          have rQ := RQ.out.setRow (cs := #[.bool lf, .slice yK kK dK, .slice yV kV dV, .slice yQ kQ dQ]) FQ.out (Nat.lt_succ_self _)
          have hS2 := hS.1.trans (below_row (B := w.heap.size) Wjx6x12x7x13x18x19 #[.bool lf, .slice yK kK dK, .slice yV kV dV, .slice yQ kQ dQ] (show w.heap.size ≤ w.heap.size + 2 by omega))
          have hS3 := (setRow_other Wjx6x12x7x13x18x19 (w.heap.size + 2) w.heap.size #[.bool lf, .slice yK kK dK, .slice yV kV dV, .slice yQ kQ dQ] (by omega)).trans hS.2.1
          have hS4 := (setRow_other Wjx6x12x7x13x18x19 (w.heap.size + 2) (w.heap.size + 1) #[.bool lf, .slice yK kK dK, .slice yV kV dV, .slice yQ kQ dQ] (by omega)).trans hS.2.2
          refine hK.out _ _ ⟨hS2, hS3, hS4⟩ (fun hHeld => ?_)
          clear hK K hHeld hS hS3 hS4
          simp only [Act.put]
          generalize Wjx6x12x7x13x18x19.setRow (w.heap.size + 2) #[.bool lf, .slice yK kK dK, .slice yV kV dV, .slice yQ kQ dQ] = wf at *
          refine wpAnyH_done (by kernel_rfl) ?_ _
          try go_wp2_with fail
          exact bodyPost_ret (v := .agg #[.bool lf, .slice yK kK dK, .slice yV kV dV, .slice yQ kQ dQ]) (results_cell_row Try.results21 _ _ (w.heap.size + 2) 26 _ (0, 0) _ rfl q2 Try.underlying26 rfl (size26' _ _ _ _)) rfl
            ⟨_, rfl, FIN.out _ _ _ _ rK rV rQ, ⟨lf, yK, kK, dK, yV, kV, dV, yQ, kQ, dQ, rfl, ⟨MK.out, MV.out, MQ.out⟩, fresh_le FK.out (by omega), fresh_le FV.out (by omega), fresh_le FQ.out (by omega)⟩, hS2⟩
        case stc18jx6x12x7 =>
          go_simp
          have hb := (Below.refl Wjx6x12x7.heap.size Wjx6x12x7).alloc (Nat.le_refl _) (.cells #[.slice x3 n3 c3, .slice y3 o3 d3] 24)
          refine hK.out _ _ (⟨hS.1.trans (hb.mono hS.1.size), (hb.block _ (blk_lt hS.2.1)).trans hS.2.1, (hb.block _ (blk_lt hS.2.2)).trans hS.2.2⟩) (fun hHeld => ?_)
          clear hK K
          try simp only [Act.put, List.setIfInBounds_toArray, List.set_cons_succ, List.set_cons_zero]
          have qPQ := heap_alloc_new Wjx6x12x7 (.cells #[.slice x3 n3 c3, .slice y3 o3 d3] 24)
          have hpQ := hS.1.size
          have qEK := EK.out.below hb
          have qEV := EV.out.below hb
          have qEQ := EQ.out.below hb
          have qDK := DK.out.below hb
          have qDV := DV.out.below hb
          have qDQ := DQ.out.below hb
          have qG2 := (hb.block _ (blk_lt G2.out)).trans G2.out
          have nepQpK : Wjx6x12x7.heap.size ≠ pK := by have := blk_lt PK.out; omega
          have qPK := (hb.block _ (blk_lt PK.out)).trans PK.out
          have nepQpV : Wjx6x12x7.heap.size ≠ pV := by have := blk_lt PV.out; omega
          have qPV := (hb.block _ (blk_lt PV.out)).trans PV.out
          have qRK := RK.out.below hb
          clear hS
          have hS := hHeld
          clear hHeld
          clear hb
          clear EK EV EQ DK DV DQ G2 PK PV RK
          generalize Wjx6x12x7.alloc (.cells #[.slice x3 n3 c3, .slice y3 o3 d3] 24) = Wjx6x12x7x18 at *
          generalize Wjx6x12x7.heap.size = pQ at *
          have EK := Lib.hid qEK
          have EV := Lib.hid qEV
          have EQ := Lib.hid qEQ
          have DK := Lib.hid qDK
          have DV := Lib.hid qDV
          have DQ := Lib.hid qDQ
          have G2 := Lib.hid qG2
          have PK := Lib.hid qPK
          have PV := Lib.hid qPV
          have RK := Lib.hid qRK
          have PQ := Lib.hid qPQ
          clear qEK qEV qEQ qDK qDV qDQ qG2 qPK qPV qRK qPQ
          refine wpAnyH_ready (rs := [13]) (by kernel_rfl) (by simp) ?_
          refine' (AllReadyH.cons ?hoc13jx6x12x7x18 (fun K hK => ?stc13jx6x12x7x18) AllReadyH.nil)
          case hoc13jx6x12x7x18 => (simp only [List.getElem?_toArray, List.getElem?_cons_succ, List.getElem?_cons_zero]; rfl)
          have hg1 := blk_lt G2.out
          go_simp
          refine (VC.out Wjx6x12x7x18 _ PV.out EV.out DV.out).mono ?_
          rintro e Wjx6x12x7x18x13 ⟨vV, rfl, hes, ⟨yV, kV, dV, rfl, hle, _⟩, hfr, hb⟩
          have EK := Lib.hid (EK.out.below hb)
          have EV := Lib.hid (EV.out.below hb)
          have EQ := Lib.hid (EQ.out.below hb)
          have DK := Lib.hid (DK.out.below hb)
          have DV := Lib.hid (DV.out.below hb)
          have DQ := Lib.hid (DQ.out.below hb)
          have G2 := Lib.hid ((hb.block _ (blk_lt G2.out)).trans G2.out)
          have PK := Lib.hid ((hb.block _ (blk_lt PK.out)).trans PK.out)
          have PV := Lib.hid ((hb.block _ (blk_lt PV.out)).trans PV.out)
          have RK := Lib.hid (RK.out.below hb)
          have PQ := Lib.hid ((hb.block _ (blk_lt PQ.out)).trans PQ.out)
          have MV := Lib.hid hle
          have FV := Lib.hid (fresh_le hfr hg1)
          have RV := Lib.hid hes
          clear hes hle hfr hg1
          go_wp2_with fail
          refine hK.out _ _ (⟨hS.1.trans (hb.mono hS.1.size), (hb.block _ (blk_lt hS.2.1)).trans hS.2.1, (hb.block _ (blk_lt hS.2.2)).trans hS.2.2⟩) (fun hHeld => ?_)
          clear hK K
          try simp only [Act.put, List.setIfInBounds_toArray, List.set_cons_succ, List.set_cons_zero]
          clear hS
          have hS := hHeld
          clear hHeld
          clear hb
          refine wpAnyH_ready (rs := [19]) (by kernel_rfl) (by simp) ?_
          refine' (AllReadyH.cons ?hoc19jx6x12x7x18x13 (fun K hK => ?stc19jx6x12x7x18x13) AllReadyH.nil)
          case hoc19jx6x12x7x18x13 => (simp only [List.getElem?_toArray, List.getElem?_cons_succ, List.getElem?_cons_zero]; rfl)
          have hg1 := blk_lt G2.out
          go_simp
          refine (QC.out Wjx6x12x7x18x13 _ PQ.out EQ.out DQ.out).mono ?_
          rintro e Wjx6x12x7x18x13x19 ⟨vQ, rfl, hes, ⟨yQ, kQ, dQ, rfl, hle, _⟩, hfr, hb⟩
          have EK := Lib.hid (EK.out.below hb)
          have EV := Lib.hid (EV.out.below hb)
          have EQ := Lib.hid (EQ.out.below hb)
          have DK := Lib.hid (DK.out.below hb)
          have DV := Lib.hid (DV.out.below hb)
          have DQ := Lib.hid (DQ.out.below hb)
          have G2 := Lib.hid ((hb.block _ (blk_lt G2.out)).trans G2.out)
          have PK := Lib.hid ((hb.block _ (blk_lt PK.out)).trans PK.out)
          have PV := Lib.hid ((hb.block _ (blk_lt PV.out)).trans PV.out)
          have RK := Lib.hid (RK.out.below hb)
          have PQ := Lib.hid ((hb.block _ (blk_lt PQ.out)).trans PQ.out)
          have RV := Lib.hid (RV.out.below hb)
          have MQ := Lib.hid hle
          have FQ := Lib.hid (fresh_le hfr hg1)
          have RQ := Lib.hid hes
          clear hes hle hfr hg1
          go_wp2_with fail
          refine hK.out _ _ (⟨hS.1.trans (hb.mono hS.1.size), (hb.block _ (blk_lt hS.2.1)).trans hS.2.1, (hb.block _ (blk_lt hS.2.2)).trans hS.2.2⟩) (fun hHeld => ?_)
          clear hK K
          try simp only [Act.put, List.setIfInBounds_toArray, List.set_cons_succ, List.set_cons_zero]
          clear hS
          have hS := hHeld
          clear hHeld
          clear hb
          refine' wpAnyH_take (i := 20) ?h1x20jx6x12x7x18x13x19 ?hsx20jx6x12x7x18x13x19 ?hfx20jx6x12x7x18x13x19 ?hrx20jx6x12x7x18x13x19 ?hQx20jx6x12x7x18x13x19 (Or.inl ⟨?hwx20jx6x12x7x18x13x19, ?hyx20jx6x12x7x18x13x19⟩) hS ?restx20jx6x12x7x18x13x19
          case h1x20jx6x12x7x18x13x19 => (simp only [List.getElem?_toArray, List.getElem?_cons_succ, List.getElem?_cons_zero]; rfl)
          case hsx20jx6x12x7x18x13x19 => kernel_rfl
          case hfx20jx6x12x7x18x13x19 => kernel_rfl
          case hrx20jx6x12x7x18x13x19 => kernel_rfl
          case hQx20jx6x12x7x18x13x19 => exact fun _ _ _ h => h
          case hwx20jx6x12x7x18x13x19 => rfl
          case hyx20jx6x12x7x18x13x19 =>
            intro W hW
            have bb := b26f lf yK yV yQ kK kV kQ dK dV dQ W
            go_simp
            try with_reducible rfl
          simp only [Act.put, List.setIfInBounds_toArray, List.set_cons_succ, List.set_cons_zero]
          refine wpAnyH_ready (rs := [21]) (by kernel_rfl) (by simp) ?_
          refine' (AllReadyH.cons ?hoc21jx6x12x7x18x13x19 (fun K hK => ?stc21jx6x12x7x18x13x19) AllReadyH.nil)
          case hoc21jx6x12x7x18x13x19 => (simp only [List.getElem?_toArray, List.getElem?_cons_succ, List.getElem?_cons_zero]; rfl)
          refine step_store_row rfl 26 (.tmp 4) (.tmp 34) rfl (w.heap.size + 2) #[.bool lf, .slice yK kK dK, .slice yV kV dV, .slice yQ kQ dQ] rfl rfl 26 _ G2.out (size26' _ _ _ _) (by rw [Z4.out]; rfl) (by simp [Value.oneCell']) ?_
          have q2 := setRow_heap Wjx6x12x7x18x13x19 (w.heap.size + 2) _ #[.bool lf, .slice yK kK dK, .slice yV kV dV, .slice yQ kQ dQ] 26 _ G2.out
          have rK := RK.out.setRow (cs := #[.bool lf, .slice yK kK dK, .slice yV kV dV, .slice yQ kQ dQ]) FK.out (Nat.lt_succ_self _)
          have rV := RV.out.setRow (cs := #[.bool lf, .slice yK kK dK, .slice yV kV dV, .slice yQ kQ dQ]) FV.out (Nat.lt_succ_self _)
          have rQ := RQ.out.setRow (cs := #[.bool lf, .slice yK kK dK, .slice yV kV dV, .slice yQ kQ dQ]) FQ.out (Nat.lt_succ_self _)
          have hS2 := hS.1.trans (below_row (B := w.heap.size) Wjx6x12x7x18x13x19 #[.bool lf, .slice yK kK dK, .slice yV kV dV, .slice yQ kQ dQ] (show w.heap.size ≤ w.heap.size + 2 by omega))
          have hS3 := (setRow_other Wjx6x12x7x18x13x19 (w.heap.size + 2) w.heap.size #[.bool lf, .slice yK kK dK, .slice yV kV dV, .slice yQ kQ dQ] (by omega)).trans hS.2.1
          have hS4 := (setRow_other Wjx6x12x7x18x13x19 (w.heap.size + 2) (w.heap.size + 1) #[.bool lf, .slice yK kK dK, .slice yV kV dV, .slice yQ kQ dQ] (by omega)).trans hS.2.2
          refine hK.out _ _ ⟨hS2, hS3, hS4⟩ (fun hHeld => ?_)
          clear hK K hHeld hS hS3 hS4
          simp only [Act.put]
          generalize Wjx6x12x7x18x13x19.setRow (w.heap.size + 2) #[.bool lf, .slice yK kK dK, .slice yV kV dV, .slice yQ kQ dQ] = wf at *
          refine wpAnyH_done (by kernel_rfl) ?_ _
          try go_wp2_with fail
          exact bodyPost_ret (v := .agg #[.bool lf, .slice yK kK dK, .slice yV kV dV, .slice yQ kQ dQ]) (results_cell_row Try.results21 _ _ (w.heap.size + 2) 26 _ (0, 0) _ rfl q2 Try.underlying26 rfl (size26' _ _ _ _)) rfl
            ⟨_, rfl, FIN.out _ _ _ _ rK rV rQ, ⟨lf, yK, kK, dK, yV, kV, dV, yQ, kQ, dQ, rfl, ⟨MK.out, MV.out, MQ.out⟩, fresh_le FK.out (by omega), fresh_le FV.out (by omega), fresh_le FQ.out (by omega)⟩, hS2⟩
      case stc18jx6x12 =>
        go_simp
        have hb := (Below.refl Wjx6x12.heap.size Wjx6x12).alloc (Nat.le_refl _) (.cells #[.slice x3 n3 c3, .slice y3 o3 d3] 24)
        refine hK.out _ _ (⟨hS.1.trans (hb.mono hS.1.size), (hb.block _ (blk_lt hS.2.1)).trans hS.2.1, (hb.block _ (blk_lt hS.2.2)).trans hS.2.2⟩) (fun hHeld => ?_)
        clear hK K
        try simp only [Act.put, List.setIfInBounds_toArray, List.set_cons_succ, List.set_cons_zero]
        have qPQ := heap_alloc_new Wjx6x12 (.cells #[.slice x3 n3 c3, .slice y3 o3 d3] 24)
        have hpQ := hS.1.size
        have qEK := EK.out.below hb
        have qEV := EV.out.below hb
        have qEQ := EQ.out.below hb
        have qDK := DK.out.below hb
        have qDV := DV.out.below hb
        have qDQ := DQ.out.below hb
        have qG2 := (hb.block _ (blk_lt G2.out)).trans G2.out
        have nepQpK : Wjx6x12.heap.size ≠ pK := by have := blk_lt PK.out; omega
        have qPK := (hb.block _ (blk_lt PK.out)).trans PK.out
        have nepQpV : Wjx6x12.heap.size ≠ pV := by have := blk_lt PV.out; omega
        have qPV := (hb.block _ (blk_lt PV.out)).trans PV.out
        clear hS
        have hS := hHeld
        clear hHeld
        clear hb
        clear EK EV EQ DK DV DQ G2 PK PV
        generalize Wjx6x12.alloc (.cells #[.slice x3 n3 c3, .slice y3 o3 d3] 24) = Wjx6x12x18 at *
        generalize Wjx6x12.heap.size = pQ at *
        have EK := Lib.hid qEK
        have EV := Lib.hid qEV
        have EQ := Lib.hid qEQ
        have DK := Lib.hid qDK
        have DV := Lib.hid qDV
        have DQ := Lib.hid qDQ
        have G2 := Lib.hid qG2
        have PK := Lib.hid qPK
        have PV := Lib.hid qPV
        have PQ := Lib.hid qPQ
        clear qEK qEV qEQ qDK qDV qDQ qG2 qPK qPV qPQ
        refine wpAnyH_ready (rs := [7]) (by kernel_rfl) (by simp) ?_
        refine' (AllReadyH.cons ?hoc7jx6x12x18 (fun K hK => ?stc7jx6x12x18) AllReadyH.nil)
        case hoc7jx6x12x18 => (simp only [List.getElem?_toArray, List.getElem?_cons_succ, List.getElem?_cons_zero]; rfl)
        have hg1 := blk_lt G2.out
        go_simp
        refine (KC.out Wjx6x12x18 _ PK.out EK.out DK.out).mono ?_
        rintro e Wjx6x12x18x7 ⟨vK, rfl, hes, ⟨yK, kK, dK, rfl, hle, _⟩, hfr, hb⟩
        have EK := Lib.hid (EK.out.below hb)
        have EV := Lib.hid (EV.out.below hb)
        have EQ := Lib.hid (EQ.out.below hb)
        have DK := Lib.hid (DK.out.below hb)
        have DV := Lib.hid (DV.out.below hb)
        have DQ := Lib.hid (DQ.out.below hb)
        have G2 := Lib.hid ((hb.block _ (blk_lt G2.out)).trans G2.out)
        have PK := Lib.hid ((hb.block _ (blk_lt PK.out)).trans PK.out)
        have PV := Lib.hid ((hb.block _ (blk_lt PV.out)).trans PV.out)
        have PQ := Lib.hid ((hb.block _ (blk_lt PQ.out)).trans PQ.out)
        have MK := Lib.hid hle
        have FK := Lib.hid (fresh_le hfr hg1)
        have RK := Lib.hid hes
        clear hes hle hfr hg1
        go_wp2_with fail
        refine hK.out _ _ (⟨hS.1.trans (hb.mono hS.1.size), (hb.block _ (blk_lt hS.2.1)).trans hS.2.1, (hb.block _ (blk_lt hS.2.2)).trans hS.2.2⟩) (fun hHeld => ?_)
        clear hK K
        try simp only [Act.put, List.setIfInBounds_toArray, List.set_cons_succ, List.set_cons_zero]
        clear hS
        have hS := hHeld
        clear hHeld
        clear hb
        refine wpAnyH_ready (rs := [13]) (by kernel_rfl) (by simp) ?_
        refine' (AllReadyH.cons ?hoc13jx6x12x18x7 (fun K hK => ?stc13jx6x12x18x7) AllReadyH.nil)
        case hoc13jx6x12x18x7 => (simp only [List.getElem?_toArray, List.getElem?_cons_succ, List.getElem?_cons_zero]; rfl)
        have hg1 := blk_lt G2.out
        go_simp
        refine (VC.out Wjx6x12x18x7 _ PV.out EV.out DV.out).mono ?_
        rintro e Wjx6x12x18x7x13 ⟨vV, rfl, hes, ⟨yV, kV, dV, rfl, hle, _⟩, hfr, hb⟩
        have EK := Lib.hid (EK.out.below hb)
        have EV := Lib.hid (EV.out.below hb)
        have EQ := Lib.hid (EQ.out.below hb)
        have DK := Lib.hid (DK.out.below hb)
        have DV := Lib.hid (DV.out.below hb)
        have DQ := Lib.hid (DQ.out.below hb)
        have G2 := Lib.hid ((hb.block _ (blk_lt G2.out)).trans G2.out)
        have PK := Lib.hid ((hb.block _ (blk_lt PK.out)).trans PK.out)
        have PV := Lib.hid ((hb.block _ (blk_lt PV.out)).trans PV.out)
        have PQ := Lib.hid ((hb.block _ (blk_lt PQ.out)).trans PQ.out)
        have RK := Lib.hid (RK.out.below hb)
        have MV := Lib.hid hle
        have FV := Lib.hid (fresh_le hfr hg1)
        have RV := Lib.hid hes
        clear hes hle hfr hg1
        go_wp2_with fail
        refine hK.out _ _ (⟨hS.1.trans (hb.mono hS.1.size), (hb.block _ (blk_lt hS.2.1)).trans hS.2.1, (hb.block _ (blk_lt hS.2.2)).trans hS.2.2⟩) (fun hHeld => ?_)
        clear hK K
        try simp only [Act.put, List.setIfInBounds_toArray, List.set_cons_succ, List.set_cons_zero]
        clear hS
        have hS := hHeld
        clear hHeld
        clear hb
        refine wpAnyH_ready (rs := [19]) (by kernel_rfl) (by simp) ?_
        refine' (AllReadyH.cons ?hoc19jx6x12x18x7x13 (fun K hK => ?stc19jx6x12x18x7x13) AllReadyH.nil)
        case hoc19jx6x12x18x7x13 => (simp only [List.getElem?_toArray, List.getElem?_cons_succ, List.getElem?_cons_zero]; rfl)
        have hg1 := blk_lt G2.out
        go_simp
        refine (QC.out Wjx6x12x18x7x13 _ PQ.out EQ.out DQ.out).mono ?_
        rintro e Wjx6x12x18x7x13x19 ⟨vQ, rfl, hes, ⟨yQ, kQ, dQ, rfl, hle, _⟩, hfr, hb⟩
        have EK := Lib.hid (EK.out.below hb)
        have EV := Lib.hid (EV.out.below hb)
        have EQ := Lib.hid (EQ.out.below hb)
        have DK := Lib.hid (DK.out.below hb)
        have DV := Lib.hid (DV.out.below hb)
        have DQ := Lib.hid (DQ.out.below hb)
        have G2 := Lib.hid ((hb.block _ (blk_lt G2.out)).trans G2.out)
        have PK := Lib.hid ((hb.block _ (blk_lt PK.out)).trans PK.out)
        have PV := Lib.hid ((hb.block _ (blk_lt PV.out)).trans PV.out)
        have PQ := Lib.hid ((hb.block _ (blk_lt PQ.out)).trans PQ.out)
        have RK := Lib.hid (RK.out.below hb)
        have RV := Lib.hid (RV.out.below hb)
        have MQ := Lib.hid hle
        have FQ := Lib.hid (fresh_le hfr hg1)
        have RQ := Lib.hid hes
        clear hes hle hfr hg1
        go_wp2_with fail
        refine hK.out _ _ (⟨hS.1.trans (hb.mono hS.1.size), (hb.block _ (blk_lt hS.2.1)).trans hS.2.1, (hb.block _ (blk_lt hS.2.2)).trans hS.2.2⟩) (fun hHeld => ?_)
        clear hK K
        try simp only [Act.put, List.setIfInBounds_toArray, List.set_cons_succ, List.set_cons_zero]
        clear hS
        have hS := hHeld
        clear hHeld
        clear hb
        refine' wpAnyH_take (i := 20) ?h1x20jx6x12x18x7x13x19 ?hsx20jx6x12x18x7x13x19 ?hfx20jx6x12x18x7x13x19 ?hrx20jx6x12x18x7x13x19 ?hQx20jx6x12x18x7x13x19 (Or.inl ⟨?hwx20jx6x12x18x7x13x19, ?hyx20jx6x12x18x7x13x19⟩) hS ?restx20jx6x12x18x7x13x19
        case h1x20jx6x12x18x7x13x19 => (simp only [List.getElem?_toArray, List.getElem?_cons_succ, List.getElem?_cons_zero]; rfl)
        case hsx20jx6x12x18x7x13x19 => kernel_rfl
        case hfx20jx6x12x18x7x13x19 => kernel_rfl
        case hrx20jx6x12x18x7x13x19 => kernel_rfl
        case hQx20jx6x12x18x7x13x19 => exact fun _ _ _ h => h
        case hwx20jx6x12x18x7x13x19 => rfl
        case hyx20jx6x12x18x7x13x19 =>
          intro W hW
          have bb := b26f lf yK yV yQ kK kV kQ dK dV dQ W
          go_simp
          try with_reducible rfl
        simp only [Act.put, List.setIfInBounds_toArray, List.set_cons_succ, List.set_cons_zero]
        refine wpAnyH_ready (rs := [21]) (by kernel_rfl) (by simp) ?_
        refine' (AllReadyH.cons ?hoc21jx6x12x18x7x13x19 (fun K hK => ?stc21jx6x12x18x7x13x19) AllReadyH.nil)
        case hoc21jx6x12x18x7x13x19 => (simp only [List.getElem?_toArray, List.getElem?_cons_succ, List.getElem?_cons_zero]; rfl)
        refine step_store_row rfl 26 (.tmp 4) (.tmp 34) rfl (w.heap.size + 2) #[.bool lf, .slice yK kK dK, .slice yV kV dV, .slice yQ kQ dQ] rfl rfl 26 _ G2.out (size26' _ _ _ _) (by rw [Z4.out]; rfl) (by simp [Value.oneCell']) ?_
        have q2 := setRow_heap Wjx6x12x18x7x13x19 (w.heap.size + 2) _ #[.bool lf, .slice yK kK dK, .slice yV kV dV, .slice yQ kQ dQ] 26 _ G2.out
        have rK := RK.out.setRow (cs := #[.bool lf, .slice yK kK dK, .slice yV kV dV, .slice yQ kQ dQ]) FK.out (Nat.lt_succ_self _)
        have rV := RV.out.setRow (cs := #[.bool lf, .slice yK kK dK, .slice yV kV dV, .slice yQ kQ dQ]) FV.out (Nat.lt_succ_self _)
        have rQ := RQ.out.setRow (cs := #[.bool lf, .slice yK kK dK, .slice yV kV dV, .slice yQ kQ dQ]) FQ.out (Nat.lt_succ_self _)
        have hS2 := hS.1.trans (below_row (B := w.heap.size) Wjx6x12x18x7x13x19 #[.bool lf, .slice yK kK dK, .slice yV kV dV, .slice yQ kQ dQ] (show w.heap.size ≤ w.heap.size + 2 by omega))
        have hS3 := (setRow_other Wjx6x12x18x7x13x19 (w.heap.size + 2) w.heap.size #[.bool lf, .slice yK kK dK, .slice yV kV dV, .slice yQ kQ dQ] (by omega)).trans hS.2.1
        have hS4 := (setRow_other Wjx6x12x18x7x13x19 (w.heap.size + 2) (w.heap.size + 1) #[.bool lf, .slice yK kK dK, .slice yV kV dV, .slice yQ kQ dQ] (by omega)).trans hS.2.2
        refine hK.out _ _ ⟨hS2, hS3, hS4⟩ (fun hHeld => ?_)
        clear hK K hHeld hS hS3 hS4
        simp only [Act.put]
        generalize Wjx6x12x18x7x13x19.setRow (w.heap.size + 2) #[.bool lf, .slice yK kK dK, .slice yV kV dV, .slice yQ kQ dQ] = wf at *
        refine wpAnyH_done (by kernel_rfl) ?_ _
        try go_wp2_with fail
        exact bodyPost_ret (v := .agg #[.bool lf, .slice yK kK dK, .slice yV kV dV, .slice yQ kQ dQ]) (results_cell_row Try.results21 _ _ (w.heap.size + 2) 26 _ (0, 0) _ rfl q2 Try.underlying26 rfl (size26' _ _ _ _)) rfl
          ⟨_, rfl, FIN.out _ _ _ _ rK rV rQ, ⟨lf, yK, kK, dK, yV, kV, dV, yQ, kQ, dQ, rfl, ⟨MK.out, MV.out, MQ.out⟩, fresh_le FK.out (by omega), fresh_le FV.out (by omega), fresh_le FQ.out (by omega)⟩, hS2⟩
    case stc18jx6 =>
      go_simp
      have hb := (Below.refl Wjx6.heap.size Wjx6).alloc (Nat.le_refl _) (.cells #[.slice x3 n3 c3, .slice y3 o3 d3] 24)
      refine hK.out _ _ (⟨hS.1.trans (hb.mono hS.1.size), (hb.block _ (blk_lt hS.2.1)).trans hS.2.1, (hb.block _ (blk_lt hS.2.2)).trans hS.2.2⟩) (fun hHeld => ?_)
      clear hK K
      try simp only [Act.put, List.setIfInBounds_toArray, List.set_cons_succ, List.set_cons_zero]
      have qPQ := heap_alloc_new Wjx6 (.cells #[.slice x3 n3 c3, .slice y3 o3 d3] 24)
      have hpQ := hS.1.size
      have qEK := EK.out.below hb
      have qEV := EV.out.below hb
      have qEQ := EQ.out.below hb
      have qDK := DK.out.below hb
      have qDV := DV.out.below hb
      have qDQ := DQ.out.below hb
      have qG2 := (hb.block _ (blk_lt G2.out)).trans G2.out
      have nepQpK : Wjx6.heap.size ≠ pK := by have := blk_lt PK.out; omega
      have qPK := (hb.block _ (blk_lt PK.out)).trans PK.out
      clear hS
      have hS := hHeld
      clear hHeld
      clear hb
      clear EK EV EQ DK DV DQ G2 PK
      generalize Wjx6.alloc (.cells #[.slice x3 n3 c3, .slice y3 o3 d3] 24) = Wjx6x18 at *
      generalize Wjx6.heap.size = pQ at *
      have EK := Lib.hid qEK
      have EV := Lib.hid qEV
      have EQ := Lib.hid qEQ
      have DK := Lib.hid qDK
      have DV := Lib.hid qDV
      have DQ := Lib.hid qDQ
      have G2 := Lib.hid qG2
      have PK := Lib.hid qPK
      have PQ := Lib.hid qPQ
      clear qEK qEV qEQ qDK qDV qDQ qG2 qPK qPQ
      refine wpAnyH_ready (rs := [7, 12]) (by kernel_rfl) (by simp) ?_
      refine' (AllReadyH.cons ?hoc7jx6x18 (fun K hK => ?stc7jx6x18) (AllReadyH.cons ?hoc12jx6x18 (fun K hK => ?stc12jx6x18) AllReadyH.nil))
      case hoc7jx6x18 => (simp only [List.getElem?_toArray, List.getElem?_cons_succ, List.getElem?_cons_zero]; rfl)
      case hoc12jx6x18 => (simp only [List.getElem?_toArray, List.getElem?_cons_succ, List.getElem?_cons_zero]; rfl)
      case stc7jx6x18 =>
        have hg1 := blk_lt G2.out
        go_simp
        refine (KC.out Wjx6x18 _ PK.out EK.out DK.out).mono ?_
        rintro e Wjx6x18x7 ⟨vK, rfl, hes, ⟨yK, kK, dK, rfl, hle, _⟩, hfr, hb⟩
        have EK := Lib.hid (EK.out.below hb)
        have EV := Lib.hid (EV.out.below hb)
        have EQ := Lib.hid (EQ.out.below hb)
        have DK := Lib.hid (DK.out.below hb)
        have DV := Lib.hid (DV.out.below hb)
        have DQ := Lib.hid (DQ.out.below hb)
        have G2 := Lib.hid ((hb.block _ (blk_lt G2.out)).trans G2.out)
        have PK := Lib.hid ((hb.block _ (blk_lt PK.out)).trans PK.out)
        have PQ := Lib.hid ((hb.block _ (blk_lt PQ.out)).trans PQ.out)
        have MK := Lib.hid hle
        have FK := Lib.hid (fresh_le hfr hg1)
        have RK := Lib.hid hes
        clear hes hle hfr hg1
        go_wp2_with fail
        refine hK.out _ _ (⟨hS.1.trans (hb.mono hS.1.size), (hb.block _ (blk_lt hS.2.1)).trans hS.2.1, (hb.block _ (blk_lt hS.2.2)).trans hS.2.2⟩) (fun hHeld => ?_)
        clear hK K
        try simp only [Act.put, List.setIfInBounds_toArray, List.set_cons_succ, List.set_cons_zero]
        clear hS
        have hS := hHeld
        clear hHeld
        clear hb
        refine wpAnyH_ready (rs := [12]) (by kernel_rfl) (by simp) ?_
        refine' (AllReadyH.cons ?hoc12jx6x18x7 (fun K hK => ?stc12jx6x18x7) AllReadyH.nil)
        case hoc12jx6x18x7 => (simp only [List.getElem?_toArray, List.getElem?_cons_succ, List.getElem?_cons_zero]; rfl)
        go_simp
        have hb := (Below.refl Wjx6x18x7.heap.size Wjx6x18x7).alloc (Nat.le_refl _) (.cells #[.slice x2 n2 c2, .slice y2 o2 d2] 23)
        refine hK.out _ _ (⟨hS.1.trans (hb.mono hS.1.size), (hb.block _ (blk_lt hS.2.1)).trans hS.2.1, (hb.block _ (blk_lt hS.2.2)).trans hS.2.2⟩) (fun hHeld => ?_)
        clear hK K
        try simp only [Act.put, List.setIfInBounds_toArray, List.set_cons_succ, List.set_cons_zero]
        have qPV := heap_alloc_new Wjx6x18x7 (.cells #[.slice x2 n2 c2, .slice y2 o2 d2] 23)
        have hpV := hS.1.size
        have qEK := EK.out.below hb
        have qEV := EV.out.below hb
        have qEQ := EQ.out.below hb
        have qDK := DK.out.below hb
        have qDV := DV.out.below hb
        have qDQ := DQ.out.below hb
        have qG2 := (hb.block _ (blk_lt G2.out)).trans G2.out
        have nepVpK : Wjx6x18x7.heap.size ≠ pK := by have := blk_lt PK.out; omega
        have qPK := (hb.block _ (blk_lt PK.out)).trans PK.out
        have nepVpQ : Wjx6x18x7.heap.size ≠ pQ := by have := blk_lt PQ.out; omega
        have qPQ := (hb.block _ (blk_lt PQ.out)).trans PQ.out
        have qRK := RK.out.below hb
        clear hS
        have hS := hHeld
        clear hHeld
        clear hb
        clear EK EV EQ DK DV DQ G2 PK PQ RK
        generalize Wjx6x18x7.alloc (.cells #[.slice x2 n2 c2, .slice y2 o2 d2] 23) = Wjx6x18x7x12 at *
        generalize Wjx6x18x7.heap.size = pV at *
        have EK := Lib.hid qEK
        have EV := Lib.hid qEV
        have EQ := Lib.hid qEQ
        have DK := Lib.hid qDK
        have DV := Lib.hid qDV
        have DQ := Lib.hid qDQ
        have G2 := Lib.hid qG2
        have PK := Lib.hid qPK
        have PQ := Lib.hid qPQ
        have RK := Lib.hid qRK
        have PV := Lib.hid qPV
        clear qEK qEV qEQ qDK qDV qDQ qG2 qPK qPQ qRK qPV
        refine wpAnyH_ready (rs := [13]) (by kernel_rfl) (by simp) ?_
        refine' (AllReadyH.cons ?hoc13jx6x18x7x12 (fun K hK => ?stc13jx6x18x7x12) AllReadyH.nil)
        case hoc13jx6x18x7x12 => (simp only [List.getElem?_toArray, List.getElem?_cons_succ, List.getElem?_cons_zero]; rfl)
        have hg1 := blk_lt G2.out
        go_simp
        refine (VC.out Wjx6x18x7x12 _ PV.out EV.out DV.out).mono ?_
        rintro e Wjx6x18x7x12x13 ⟨vV, rfl, hes, ⟨yV, kV, dV, rfl, hle, _⟩, hfr, hb⟩
        have EK := Lib.hid (EK.out.below hb)
        have EV := Lib.hid (EV.out.below hb)
        have EQ := Lib.hid (EQ.out.below hb)
        have DK := Lib.hid (DK.out.below hb)
        have DV := Lib.hid (DV.out.below hb)
        have DQ := Lib.hid (DQ.out.below hb)
        have G2 := Lib.hid ((hb.block _ (blk_lt G2.out)).trans G2.out)
        have PK := Lib.hid ((hb.block _ (blk_lt PK.out)).trans PK.out)
        have PQ := Lib.hid ((hb.block _ (blk_lt PQ.out)).trans PQ.out)
        have RK := Lib.hid (RK.out.below hb)
        have PV := Lib.hid ((hb.block _ (blk_lt PV.out)).trans PV.out)
        have MV := Lib.hid hle
        have FV := Lib.hid (fresh_le hfr hg1)
        have RV := Lib.hid hes
        clear hes hle hfr hg1
        go_wp2_with fail
        refine hK.out _ _ (⟨hS.1.trans (hb.mono hS.1.size), (hb.block _ (blk_lt hS.2.1)).trans hS.2.1, (hb.block _ (blk_lt hS.2.2)).trans hS.2.2⟩) (fun hHeld => ?_)
        clear hK K
        try simp only [Act.put, List.setIfInBounds_toArray, List.set_cons_succ, List.set_cons_zero]
        clear hS
        have hS := hHeld
        clear hHeld
        clear hb
        refine wpAnyH_ready (rs := [19]) (by kernel_rfl) (by simp) ?_
        refine' (AllReadyH.cons ?hoc19jx6x18x7x12x13 (fun K hK => ?stc19jx6x18x7x12x13) AllReadyH.nil)
        case hoc19jx6x18x7x12x13 => (simp only [List.getElem?_toArray, List.getElem?_cons_succ, List.getElem?_cons_zero]; rfl)
        have hg1 := blk_lt G2.out
        go_simp
        refine (QC.out Wjx6x18x7x12x13 _ PQ.out EQ.out DQ.out).mono ?_
        rintro e Wjx6x18x7x12x13x19 ⟨vQ, rfl, hes, ⟨yQ, kQ, dQ, rfl, hle, _⟩, hfr, hb⟩
        have EK := Lib.hid (EK.out.below hb)
        have EV := Lib.hid (EV.out.below hb)
        have EQ := Lib.hid (EQ.out.below hb)
        have DK := Lib.hid (DK.out.below hb)
        have DV := Lib.hid (DV.out.below hb)
        have DQ := Lib.hid (DQ.out.below hb)
        have G2 := Lib.hid ((hb.block _ (blk_lt G2.out)).trans G2.out)
        have PK := Lib.hid ((hb.block _ (blk_lt PK.out)).trans PK.out)
        have PQ := Lib.hid ((hb.block _ (blk_lt PQ.out)).trans PQ.out)
        have RK := Lib.hid (RK.out.below hb)
        have PV := Lib.hid ((hb.block _ (blk_lt PV.out)).trans PV.out)
        have RV := Lib.hid (RV.out.below hb)
        have MQ := Lib.hid hle
        have FQ := Lib.hid (fresh_le hfr hg1)
        have RQ := Lib.hid hes
        clear hes hle hfr hg1
        go_wp2_with fail
        refine hK.out _ _ (⟨hS.1.trans (hb.mono hS.1.size), (hb.block _ (blk_lt hS.2.1)).trans hS.2.1, (hb.block _ (blk_lt hS.2.2)).trans hS.2.2⟩) (fun hHeld => ?_)
        clear hK K
        try simp only [Act.put, List.setIfInBounds_toArray, List.set_cons_succ, List.set_cons_zero]
        clear hS
        have hS := hHeld
        clear hHeld
        clear hb
        refine' wpAnyH_take (i := 20) ?h1x20jx6x18x7x12x13x19 ?hsx20jx6x18x7x12x13x19 ?hfx20jx6x18x7x12x13x19 ?hrx20jx6x18x7x12x13x19 ?hQx20jx6x18x7x12x13x19 (Or.inl ⟨?hwx20jx6x18x7x12x13x19, ?hyx20jx6x18x7x12x13x19⟩) hS ?restx20jx6x18x7x12x13x19
        case h1x20jx6x18x7x12x13x19 => (simp only [List.getElem?_toArray, List.getElem?_cons_succ, List.getElem?_cons_zero]; rfl)
        case hsx20jx6x18x7x12x13x19 => kernel_rfl
        case hfx20jx6x18x7x12x13x19 => kernel_rfl
        case hrx20jx6x18x7x12x13x19 => kernel_rfl
        case hQx20jx6x18x7x12x13x19 => exact fun _ _ _ h => h
        case hwx20jx6x18x7x12x13x19 => rfl
        case hyx20jx6x18x7x12x13x19 =>
          intro W hW
          have bb := b26f lf yK yV yQ kK kV kQ dK dV dQ W
          go_simp
          try with_reducible rfl
        simp only [Act.put, List.setIfInBounds_toArray, List.set_cons_succ, List.set_cons_zero]
        refine wpAnyH_ready (rs := [21]) (by kernel_rfl) (by simp) ?_
        refine' (AllReadyH.cons ?hoc21jx6x18x7x12x13x19 (fun K hK => ?stc21jx6x18x7x12x13x19) AllReadyH.nil)
        case hoc21jx6x18x7x12x13x19 => (simp only [List.getElem?_toArray, List.getElem?_cons_succ, List.getElem?_cons_zero]; rfl)
        refine step_store_row rfl 26 (.tmp 4) (.tmp 34) rfl (w.heap.size + 2) #[.bool lf, .slice yK kK dK, .slice yV kV dV, .slice yQ kQ dQ] rfl rfl 26 _ G2.out (size26' _ _ _ _) (by rw [Z4.out]; rfl) (by simp [Value.oneCell']) ?_
        have q2 := setRow_heap Wjx6x18x7x12x13x19 (w.heap.size + 2) _ #[.bool lf, .slice yK kK dK, .slice yV kV dV, .slice yQ kQ dQ] 26 _ G2.out
        have rK := RK.out.setRow (cs := #[.bool lf, .slice yK kK dK, .slice yV kV dV, .slice yQ kQ dQ]) FK.out (Nat.lt_succ_self _)
        have rV := RV.out.setRow (cs := #[.bool lf, .slice yK kK dK, .slice yV kV dV, .slice yQ kQ dQ]) FV.out (Nat.lt_succ_self _)
        have rQ := RQ.out.setRow (cs := #[.bool lf, .slice yK kK dK, .slice yV kV dV, .slice yQ kQ dQ]) FQ.out (Nat.lt_succ_self _)
        have hS2 := hS.1.trans (below_row (B := w.heap.size) Wjx6x18x7x12x13x19 #[.bool lf, .slice yK kK dK, .slice yV kV dV, .slice yQ kQ dQ] (show w.heap.size ≤ w.heap.size + 2 by omega))
        have hS3 := (setRow_other Wjx6x18x7x12x13x19 (w.heap.size + 2) w.heap.size #[.bool lf, .slice yK kK dK, .slice yV kV dV, .slice yQ kQ dQ] (by omega)).trans hS.2.1
        have hS4 := (setRow_other Wjx6x18x7x12x13x19 (w.heap.size + 2) (w.heap.size + 1) #[.bool lf, .slice yK kK dK, .slice yV kV dV, .slice yQ kQ dQ] (by omega)).trans hS.2.2
        refine hK.out _ _ ⟨hS2, hS3, hS4⟩ (fun hHeld => ?_)
        clear hK K hHeld hS hS3 hS4
        simp only [Act.put]
        generalize Wjx6x18x7x12x13x19.setRow (w.heap.size + 2) #[.bool lf, .slice yK kK dK, .slice yV kV dV, .slice yQ kQ dQ] = wf at *
        refine wpAnyH_done (by kernel_rfl) ?_ _
        try go_wp2_with fail
        exact bodyPost_ret (v := .agg #[.bool lf, .slice yK kK dK, .slice yV kV dV, .slice yQ kQ dQ]) (results_cell_row Try.results21 _ _ (w.heap.size + 2) 26 _ (0, 0) _ rfl q2 Try.underlying26 rfl (size26' _ _ _ _)) rfl
          ⟨_, rfl, FIN.out _ _ _ _ rK rV rQ, ⟨lf, yK, kK, dK, yV, kV, dV, yQ, kQ, dQ, rfl, ⟨MK.out, MV.out, MQ.out⟩, fresh_le FK.out (by omega), fresh_le FV.out (by omega), fresh_le FQ.out (by omega)⟩, hS2⟩
      case stc12jx6x18 =>
        go_simp
        have hb := (Below.refl Wjx6x18.heap.size Wjx6x18).alloc (Nat.le_refl _) (.cells #[.slice x2 n2 c2, .slice y2 o2 d2] 23)
        refine hK.out _ _ (⟨hS.1.trans (hb.mono hS.1.size), (hb.block _ (blk_lt hS.2.1)).trans hS.2.1, (hb.block _ (blk_lt hS.2.2)).trans hS.2.2⟩) (fun hHeld => ?_)
        clear hK K
        try simp only [Act.put, List.setIfInBounds_toArray, List.set_cons_succ, List.set_cons_zero]
        have qPV := heap_alloc_new Wjx6x18 (.cells #[.slice x2 n2 c2, .slice y2 o2 d2] 23)
        have hpV := hS.1.size
        have qEK := EK.out.below hb
        have qEV := EV.out.below hb
        have qEQ := EQ.out.below hb
        have qDK := DK.out.below hb
        have qDV := DV.out.below hb
        have qDQ := DQ.out.below hb
        have qG2 := (hb.block _ (blk_lt G2.out)).trans G2.out
        have nepVpK : Wjx6x18.heap.size ≠ pK := by have := blk_lt PK.out; omega
        have qPK := (hb.block _ (blk_lt PK.out)).trans PK.out
        have nepVpQ : Wjx6x18.heap.size ≠ pQ := by have := blk_lt PQ.out; omega
        have qPQ := (hb.block _ (blk_lt PQ.out)).trans PQ.out
        clear hS
        have hS := hHeld
        clear hHeld
        clear hb
        clear EK EV EQ DK DV DQ G2 PK PQ
        generalize Wjx6x18.alloc (.cells #[.slice x2 n2 c2, .slice y2 o2 d2] 23) = Wjx6x18x12 at *
        generalize Wjx6x18.heap.size = pV at *
        have EK := Lib.hid qEK
        have EV := Lib.hid qEV
        have EQ := Lib.hid qEQ
        have DK := Lib.hid qDK
        have DV := Lib.hid qDV
        have DQ := Lib.hid qDQ
        have G2 := Lib.hid qG2
        have PK := Lib.hid qPK
        have PQ := Lib.hid qPQ
        have PV := Lib.hid qPV
        clear qEK qEV qEQ qDK qDV qDQ qG2 qPK qPQ qPV
        refine wpAnyH_ready (rs := [7]) (by kernel_rfl) (by simp) ?_
        refine' (AllReadyH.cons ?hoc7jx6x18x12 (fun K hK => ?stc7jx6x18x12) AllReadyH.nil)
        case hoc7jx6x18x12 => (simp only [List.getElem?_toArray, List.getElem?_cons_succ, List.getElem?_cons_zero]; rfl)
        have hg1 := blk_lt G2.out
        go_simp
        refine (KC.out Wjx6x18x12 _ PK.out EK.out DK.out).mono ?_
        rintro e Wjx6x18x12x7 ⟨vK, rfl, hes, ⟨yK, kK, dK, rfl, hle, _⟩, hfr, hb⟩
        have EK := Lib.hid (EK.out.below hb)
        have EV := Lib.hid (EV.out.below hb)
        have EQ := Lib.hid (EQ.out.below hb)
        have DK := Lib.hid (DK.out.below hb)
        have DV := Lib.hid (DV.out.below hb)
        have DQ := Lib.hid (DQ.out.below hb)
        have G2 := Lib.hid ((hb.block _ (blk_lt G2.out)).trans G2.out)
        have PK := Lib.hid ((hb.block _ (blk_lt PK.out)).trans PK.out)
        have PQ := Lib.hid ((hb.block _ (blk_lt PQ.out)).trans PQ.out)
        have PV := Lib.hid ((hb.block _ (blk_lt PV.out)).trans PV.out)
        have MK := Lib.hid hle
        have FK := Lib.hid (fresh_le hfr hg1)
        have RK := Lib.hid hes
        clear hes hle hfr hg1
        go_wp2_with fail
        refine hK.out _ _ (⟨hS.1.trans (hb.mono hS.1.size), (hb.block _ (blk_lt hS.2.1)).trans hS.2.1, (hb.block _ (blk_lt hS.2.2)).trans hS.2.2⟩) (fun hHeld => ?_)
        clear hK K
        try simp only [Act.put, List.setIfInBounds_toArray, List.set_cons_succ, List.set_cons_zero]
        clear hS
        have hS := hHeld
        clear hHeld
        clear hb
        refine wpAnyH_ready (rs := [13]) (by kernel_rfl) (by simp) ?_
        refine' (AllReadyH.cons ?hoc13jx6x18x12x7 (fun K hK => ?stc13jx6x18x12x7) AllReadyH.nil)
        case hoc13jx6x18x12x7 => (simp only [List.getElem?_toArray, List.getElem?_cons_succ, List.getElem?_cons_zero]; rfl)
        have hg1 := blk_lt G2.out
        go_simp
        refine (VC.out Wjx6x18x12x7 _ PV.out EV.out DV.out).mono ?_
        rintro e Wjx6x18x12x7x13 ⟨vV, rfl, hes, ⟨yV, kV, dV, rfl, hle, _⟩, hfr, hb⟩
        have EK := Lib.hid (EK.out.below hb)
        have EV := Lib.hid (EV.out.below hb)
        have EQ := Lib.hid (EQ.out.below hb)
        have DK := Lib.hid (DK.out.below hb)
        have DV := Lib.hid (DV.out.below hb)
        have DQ := Lib.hid (DQ.out.below hb)
        have G2 := Lib.hid ((hb.block _ (blk_lt G2.out)).trans G2.out)
        have PK := Lib.hid ((hb.block _ (blk_lt PK.out)).trans PK.out)
        have PQ := Lib.hid ((hb.block _ (blk_lt PQ.out)).trans PQ.out)
        have PV := Lib.hid ((hb.block _ (blk_lt PV.out)).trans PV.out)
        have RK := Lib.hid (RK.out.below hb)
        have MV := Lib.hid hle
        have FV := Lib.hid (fresh_le hfr hg1)
        have RV := Lib.hid hes
        clear hes hle hfr hg1
        go_wp2_with fail
        refine hK.out _ _ (⟨hS.1.trans (hb.mono hS.1.size), (hb.block _ (blk_lt hS.2.1)).trans hS.2.1, (hb.block _ (blk_lt hS.2.2)).trans hS.2.2⟩) (fun hHeld => ?_)
        clear hK K
        try simp only [Act.put, List.setIfInBounds_toArray, List.set_cons_succ, List.set_cons_zero]
        clear hS
        have hS := hHeld
        clear hHeld
        clear hb
        refine wpAnyH_ready (rs := [19]) (by kernel_rfl) (by simp) ?_
        refine' (AllReadyH.cons ?hoc19jx6x18x12x7x13 (fun K hK => ?stc19jx6x18x12x7x13) AllReadyH.nil)
        case hoc19jx6x18x12x7x13 => (simp only [List.getElem?_toArray, List.getElem?_cons_succ, List.getElem?_cons_zero]; rfl)
        have hg1 := blk_lt G2.out
        go_simp
        refine (QC.out Wjx6x18x12x7x13 _ PQ.out EQ.out DQ.out).mono ?_
        rintro e Wjx6x18x12x7x13x19 ⟨vQ, rfl, hes, ⟨yQ, kQ, dQ, rfl, hle, _⟩, hfr, hb⟩
        have EK := Lib.hid (EK.out.below hb)
        have EV := Lib.hid (EV.out.below hb)
        have EQ := Lib.hid (EQ.out.below hb)
        have DK := Lib.hid (DK.out.below hb)
        have DV := Lib.hid (DV.out.below hb)
        have DQ := Lib.hid (DQ.out.below hb)
        have G2 := Lib.hid ((hb.block _ (blk_lt G2.out)).trans G2.out)
        have PK := Lib.hid ((hb.block _ (blk_lt PK.out)).trans PK.out)
        have PQ := Lib.hid ((hb.block _ (blk_lt PQ.out)).trans PQ.out)
        have PV := Lib.hid ((hb.block _ (blk_lt PV.out)).trans PV.out)
        have RK := Lib.hid (RK.out.below hb)
        have RV := Lib.hid (RV.out.below hb)
        have MQ := Lib.hid hle
        have FQ := Lib.hid (fresh_le hfr hg1)
        have RQ := Lib.hid hes
        clear hes hle hfr hg1
        go_wp2_with fail
        refine hK.out _ _ (⟨hS.1.trans (hb.mono hS.1.size), (hb.block _ (blk_lt hS.2.1)).trans hS.2.1, (hb.block _ (blk_lt hS.2.2)).trans hS.2.2⟩) (fun hHeld => ?_)
        clear hK K
        try simp only [Act.put, List.setIfInBounds_toArray, List.set_cons_succ, List.set_cons_zero]
        clear hS
        have hS := hHeld
        clear hHeld
        clear hb
        refine' wpAnyH_take (i := 20) ?h1x20jx6x18x12x7x13x19 ?hsx20jx6x18x12x7x13x19 ?hfx20jx6x18x12x7x13x19 ?hrx20jx6x18x12x7x13x19 ?hQx20jx6x18x12x7x13x19 (Or.inl ⟨?hwx20jx6x18x12x7x13x19, ?hyx20jx6x18x12x7x13x19⟩) hS ?restx20jx6x18x12x7x13x19
        case h1x20jx6x18x12x7x13x19 => (simp only [List.getElem?_toArray, List.getElem?_cons_succ, List.getElem?_cons_zero]; rfl)
        case hsx20jx6x18x12x7x13x19 => kernel_rfl
        case hfx20jx6x18x12x7x13x19 => kernel_rfl
        case hrx20jx6x18x12x7x13x19 => kernel_rfl
        case hQx20jx6x18x12x7x13x19 => exact fun _ _ _ h => h
        case hwx20jx6x18x12x7x13x19 => rfl
        case hyx20jx6x18x12x7x13x19 =>
          intro W hW
          have bb := b26f lf yK yV yQ kK kV kQ dK dV dQ W
          go_simp
          try with_reducible rfl
        simp only [Act.put, List.setIfInBounds_toArray, List.set_cons_succ, List.set_cons_zero]
        refine wpAnyH_ready (rs := [21]) (by kernel_rfl) (by simp) ?_
        refine' (AllReadyH.cons ?hoc21jx6x18x12x7x13x19 (fun K hK => ?stc21jx6x18x12x7x13x19) AllReadyH.nil)
        case hoc21jx6x18x12x7x13x19 => (simp only [List.getElem?_toArray, List.getElem?_cons_succ, List.getElem?_cons_zero]; rfl)
        refine step_store_row rfl 26 (.tmp 4) (.tmp 34) rfl (w.heap.size + 2) #[.bool lf, .slice yK kK dK, .slice yV kV dV, .slice yQ kQ dQ] rfl rfl 26 _ G2.out (size26' _ _ _ _) (by rw [Z4.out]; rfl) (by simp [Value.oneCell']) ?_
        have q2 := setRow_heap Wjx6x18x12x7x13x19 (w.heap.size + 2) _ #[.bool lf, .slice yK kK dK, .slice yV kV dV, .slice yQ kQ dQ] 26 _ G2.out
        have rK := RK.out.setRow (cs := #[.bool lf, .slice yK kK dK, .slice yV kV dV, .slice yQ kQ dQ]) FK.out (Nat.lt_succ_self _)
        have rV := RV.out.setRow (cs := #[.bool lf, .slice yK kK dK, .slice yV kV dV, .slice yQ kQ dQ]) FV.out (Nat.lt_succ_self _)
        have rQ := RQ.out.setRow (cs := #[.bool lf, .slice yK kK dK, .slice yV kV dV, .slice yQ kQ dQ]) FQ.out (Nat.lt_succ_self _)
        have hS2 := hS.1.trans (below_row (B := w.heap.size) Wjx6x18x12x7x13x19 #[.bool lf, .slice yK kK dK, .slice yV kV dV, .slice yQ kQ dQ] (show w.heap.size ≤ w.heap.size + 2 by omega))
        have hS3 := (setRow_other Wjx6x18x12x7x13x19 (w.heap.size + 2) w.heap.size #[.bool lf, .slice yK kK dK, .slice yV kV dV, .slice yQ kQ dQ] (by omega)).trans hS.2.1
        have hS4 := (setRow_other Wjx6x18x12x7x13x19 (w.heap.size + 2) (w.heap.size + 1) #[.bool lf, .slice yK kK dK, .slice yV kV dV, .slice yQ kQ dQ] (by omega)).trans hS.2.2
        refine hK.out _ _ ⟨hS2, hS3, hS4⟩ (fun hHeld => ?_)
        clear hK K hHeld hS hS3 hS4
        simp only [Act.put]
        generalize Wjx6x18x12x7x13x19.setRow (w.heap.size + 2) #[.bool lf, .slice yK kK dK, .slice yV kV dV, .slice yQ kQ dQ] = wf at *
        refine wpAnyH_done (by kernel_rfl) ?_ _
        try go_wp2_with fail
        exact bodyPost_ret (v := .agg #[.bool lf, .slice yK kK dK, .slice yV kV dV, .slice yQ kQ dQ]) (results_cell_row Try.results21 _ _ (w.heap.size + 2) 26 _ (0, 0) _ rfl q2 Try.underlying26 rfl (size26' _ _ _ _)) rfl
          ⟨_, rfl, FIN.out _ _ _ _ rK rV rQ, ⟨lf, yK, kK, dK, yV, kV, dV, yQ, kQ, dQ, rfl, ⟨MK.out, MV.out, MQ.out⟩, fresh_le FK.out (by omega), fresh_le FV.out (by omega), fresh_le FQ.out (by omega)⟩, hS2⟩
  case stc12j =>
    go_simp
    have hb := (Below.refl Wjs.heap.size Wjs).alloc (Nat.le_refl _) (.cells #[.slice x2 n2 c2, .slice y2 o2 d2] 23)
    refine hK.out _ _ (⟨hS.1.trans (hb.mono hS.1.size), (hb.block _ (blk_lt hS.2.1)).trans hS.2.1, (hb.block _ (blk_lt hS.2.2)).trans hS.2.2⟩) (fun hHeld => ?_)
    clear hK K
    try simp only [Act.put, List.setIfInBounds_toArray, List.set_cons_succ, List.set_cons_zero]
    have qPV := heap_alloc_new Wjs (.cells #[.slice x2 n2 c2, .slice y2 o2 d2] 23)
    have hpV := hS.1.size
    have qEK := EK.out.below hb
    have qEV := EV.out.below hb
    have qEQ := EQ.out.below hb
    have qDK := DK.out.below hb
    have qDV := DV.out.below hb
    have qDQ := DQ.out.below hb
    have qG2 := (hb.block _ (blk_lt G2.out)).trans G2.out
    clear hS
    have hS := hHeld
    clear hHeld
    clear hb
    clear EK EV EQ DK DV DQ G2
    generalize Wjs.alloc (.cells #[.slice x2 n2 c2, .slice y2 o2 d2] 23) = Wjx12 at *
    generalize Wjs.heap.size = pV at *
    have EK := Lib.hid qEK
    have EV := Lib.hid qEV
    have EQ := Lib.hid qEQ
    have DK := Lib.hid qDK
    have DV := Lib.hid qDV
    have DQ := Lib.hid qDQ
    have G2 := Lib.hid qG2
    have PV := Lib.hid qPV
    clear qEK qEV qEQ qDK qDV qDQ qG2 qPV
    refine wpAnyH_ready (rs := [6, 18]) (by kernel_rfl) (by simp) ?_
    refine' (AllReadyH.cons ?hoc6jx12 (fun K hK => ?stc6jx12) (AllReadyH.cons ?hoc18jx12 (fun K hK => ?stc18jx12) AllReadyH.nil))
    case hoc6jx12 => (simp only [List.getElem?_toArray, List.getElem?_cons_succ, List.getElem?_cons_zero]; rfl)
    case hoc18jx12 => (simp only [List.getElem?_toArray, List.getElem?_cons_succ, List.getElem?_cons_zero]; rfl)
    case stc6jx12 =>
      go_simp
      have hb := (Below.refl Wjx12.heap.size Wjx12).alloc (Nat.le_refl _) (.cells #[.slice x1 n1 c1, .slice y1 o1 d1] 22)
      refine hK.out _ _ (⟨hS.1.trans (hb.mono hS.1.size), (hb.block _ (blk_lt hS.2.1)).trans hS.2.1, (hb.block _ (blk_lt hS.2.2)).trans hS.2.2⟩) (fun hHeld => ?_)
      clear hK K
      try simp only [Act.put, List.setIfInBounds_toArray, List.set_cons_succ, List.set_cons_zero]
      have qPK := heap_alloc_new Wjx12 (.cells #[.slice x1 n1 c1, .slice y1 o1 d1] 22)
      have hpK := hS.1.size
      have qEK := EK.out.below hb
      have qEV := EV.out.below hb
      have qEQ := EQ.out.below hb
      have qDK := DK.out.below hb
      have qDV := DV.out.below hb
      have qDQ := DQ.out.below hb
      have qG2 := (hb.block _ (blk_lt G2.out)).trans G2.out
      have nepKpV : Wjx12.heap.size ≠ pV := by have := blk_lt PV.out; omega
      have qPV := (hb.block _ (blk_lt PV.out)).trans PV.out
      clear hS
      have hS := hHeld
      clear hHeld
      clear hb
      clear EK EV EQ DK DV DQ G2 PV
      generalize Wjx12.alloc (.cells #[.slice x1 n1 c1, .slice y1 o1 d1] 22) = Wjx12x6 at *
      generalize Wjx12.heap.size = pK at *
      have EK := Lib.hid qEK
      have EV := Lib.hid qEV
      have EQ := Lib.hid qEQ
      have DK := Lib.hid qDK
      have DV := Lib.hid qDV
      have DQ := Lib.hid qDQ
      have G2 := Lib.hid qG2
      have PV := Lib.hid qPV
      have PK := Lib.hid qPK
      clear qEK qEV qEQ qDK qDV qDQ qG2 qPV qPK
      refine wpAnyH_ready (rs := [7, 18]) (by kernel_rfl) (by simp) ?_
      refine' (AllReadyH.cons ?hoc7jx12x6 (fun K hK => ?stc7jx12x6) (AllReadyH.cons ?hoc18jx12x6 (fun K hK => ?stc18jx12x6) AllReadyH.nil))
      case hoc7jx12x6 => (simp only [List.getElem?_toArray, List.getElem?_cons_succ, List.getElem?_cons_zero]; rfl)
      case hoc18jx12x6 => (simp only [List.getElem?_toArray, List.getElem?_cons_succ, List.getElem?_cons_zero]; rfl)
      case stc7jx12x6 =>
        have hg1 := blk_lt G2.out
        go_simp
        refine (KC.out Wjx12x6 _ PK.out EK.out DK.out).mono ?_
        rintro e Wjx12x6x7 ⟨vK, rfl, hes, ⟨yK, kK, dK, rfl, hle, _⟩, hfr, hb⟩
        have EK := Lib.hid (EK.out.below hb)
        have EV := Lib.hid (EV.out.below hb)
        have EQ := Lib.hid (EQ.out.below hb)
        have DK := Lib.hid (DK.out.below hb)
        have DV := Lib.hid (DV.out.below hb)
        have DQ := Lib.hid (DQ.out.below hb)
        have G2 := Lib.hid ((hb.block _ (blk_lt G2.out)).trans G2.out)
        have PV := Lib.hid ((hb.block _ (blk_lt PV.out)).trans PV.out)
        have PK := Lib.hid ((hb.block _ (blk_lt PK.out)).trans PK.out)
        have MK := Lib.hid hle
        have FK := Lib.hid (fresh_le hfr hg1)
        have RK := Lib.hid hes
        clear hes hle hfr hg1
        go_wp2_with fail
        refine hK.out _ _ (⟨hS.1.trans (hb.mono hS.1.size), (hb.block _ (blk_lt hS.2.1)).trans hS.2.1, (hb.block _ (blk_lt hS.2.2)).trans hS.2.2⟩) (fun hHeld => ?_)
        clear hK K
        try simp only [Act.put, List.setIfInBounds_toArray, List.set_cons_succ, List.set_cons_zero]
        clear hS
        have hS := hHeld
        clear hHeld
        clear hb
        refine wpAnyH_ready (rs := [13, 18]) (by kernel_rfl) (by simp) ?_
        refine' (AllReadyH.cons ?hoc13jx12x6x7 (fun K hK => ?stc13jx12x6x7) (AllReadyH.cons ?hoc18jx12x6x7 (fun K hK => ?stc18jx12x6x7) AllReadyH.nil))
        case hoc13jx12x6x7 => (simp only [List.getElem?_toArray, List.getElem?_cons_succ, List.getElem?_cons_zero]; rfl)
        case hoc18jx12x6x7 => (simp only [List.getElem?_toArray, List.getElem?_cons_succ, List.getElem?_cons_zero]; rfl)
        case stc13jx12x6x7 =>
          have hg1 := blk_lt G2.out
          go_simp
          refine (VC.out Wjx12x6x7 _ PV.out EV.out DV.out).mono ?_
          rintro e Wjx12x6x7x13 ⟨vV, rfl, hes, ⟨yV, kV, dV, rfl, hle, _⟩, hfr, hb⟩
          have EK := Lib.hid (EK.out.below hb)
          have EV := Lib.hid (EV.out.below hb)
          have EQ := Lib.hid (EQ.out.below hb)
          have DK := Lib.hid (DK.out.below hb)
          have DV := Lib.hid (DV.out.below hb)
          have DQ := Lib.hid (DQ.out.below hb)
          have G2 := Lib.hid ((hb.block _ (blk_lt G2.out)).trans G2.out)
          have PV := Lib.hid ((hb.block _ (blk_lt PV.out)).trans PV.out)
          have PK := Lib.hid ((hb.block _ (blk_lt PK.out)).trans PK.out)
          have RK := Lib.hid (RK.out.below hb)
          have MV := Lib.hid hle
          have FV := Lib.hid (fresh_le hfr hg1)
          have RV := Lib.hid hes
          clear hes hle hfr hg1
          go_wp2_with fail
          refine hK.out _ _ (⟨hS.1.trans (hb.mono hS.1.size), (hb.block _ (blk_lt hS.2.1)).trans hS.2.1, (hb.block _ (blk_lt hS.2.2)).trans hS.2.2⟩) (fun hHeld => ?_)
          clear hK K
          try simp only [Act.put, List.setIfInBounds_toArray, List.set_cons_succ, List.set_cons_zero]
          clear hS
          have hS := hHeld
          clear hHeld
          clear hb
          refine wpAnyH_ready (rs := [18]) (by kernel_rfl) (by simp) ?_
          refine' (AllReadyH.cons ?hoc18jx12x6x7x13 (fun K hK => ?stc18jx12x6x7x13) AllReadyH.nil)
          case hoc18jx12x6x7x13 => (simp only [List.getElem?_toArray, List.getElem?_cons_succ, List.getElem?_cons_zero]; rfl)
          go_simp
          have hb := (Below.refl Wjx12x6x7x13.heap.size Wjx12x6x7x13).alloc (Nat.le_refl _) (.cells #[.slice x3 n3 c3, .slice y3 o3 d3] 24)
          refine hK.out _ _ (⟨hS.1.trans (hb.mono hS.1.size), (hb.block _ (blk_lt hS.2.1)).trans hS.2.1, (hb.block _ (blk_lt hS.2.2)).trans hS.2.2⟩) (fun hHeld => ?_)
          clear hK K
          try simp only [Act.put, List.setIfInBounds_toArray, List.set_cons_succ, List.set_cons_zero]
          have qPQ := heap_alloc_new Wjx12x6x7x13 (.cells #[.slice x3 n3 c3, .slice y3 o3 d3] 24)
          have hpQ := hS.1.size
          have qEK := EK.out.below hb
          have qEV := EV.out.below hb
          have qEQ := EQ.out.below hb
          have qDK := DK.out.below hb
          have qDV := DV.out.below hb
          have qDQ := DQ.out.below hb
          have qG2 := (hb.block _ (blk_lt G2.out)).trans G2.out
          have nepQpV : Wjx12x6x7x13.heap.size ≠ pV := by have := blk_lt PV.out; omega
          have qPV := (hb.block _ (blk_lt PV.out)).trans PV.out
          have nepQpK : Wjx12x6x7x13.heap.size ≠ pK := by have := blk_lt PK.out; omega
          have qPK := (hb.block _ (blk_lt PK.out)).trans PK.out
          have qRK := RK.out.below hb
          have qRV := RV.out.below hb
          clear hS
          have hS := hHeld
          clear hHeld
          clear hb
          clear EK EV EQ DK DV DQ G2 PV PK RK RV
          generalize Wjx12x6x7x13.alloc (.cells #[.slice x3 n3 c3, .slice y3 o3 d3] 24) = Wjx12x6x7x13x18 at *
          generalize Wjx12x6x7x13.heap.size = pQ at *
          have EK := Lib.hid qEK
          have EV := Lib.hid qEV
          have EQ := Lib.hid qEQ
          have DK := Lib.hid qDK
          have DV := Lib.hid qDV
          have DQ := Lib.hid qDQ
          have G2 := Lib.hid qG2
          have PV := Lib.hid qPV
          have PK := Lib.hid qPK
          have RK := Lib.hid qRK
          have RV := Lib.hid qRV
          have PQ := Lib.hid qPQ
          clear qEK qEV qEQ qDK qDV qDQ qG2 qPV qPK qRK qRV qPQ
          refine wpAnyH_ready (rs := [19]) (by kernel_rfl) (by simp) ?_
          refine' (AllReadyH.cons ?hoc19jx12x6x7x13x18 (fun K hK => ?stc19jx12x6x7x13x18) AllReadyH.nil)
          case hoc19jx12x6x7x13x18 => (simp only [List.getElem?_toArray, List.getElem?_cons_succ, List.getElem?_cons_zero]; rfl)
          have hg1 := blk_lt G2.out
          go_simp
          refine (QC.out Wjx12x6x7x13x18 _ PQ.out EQ.out DQ.out).mono ?_
          rintro e Wjx12x6x7x13x18x19 ⟨vQ, rfl, hes, ⟨yQ, kQ, dQ, rfl, hle, _⟩, hfr, hb⟩
          have EK := Lib.hid (EK.out.below hb)
          have EV := Lib.hid (EV.out.below hb)
          have EQ := Lib.hid (EQ.out.below hb)
          have DK := Lib.hid (DK.out.below hb)
          have DV := Lib.hid (DV.out.below hb)
          have DQ := Lib.hid (DQ.out.below hb)
          have G2 := Lib.hid ((hb.block _ (blk_lt G2.out)).trans G2.out)
          have PV := Lib.hid ((hb.block _ (blk_lt PV.out)).trans PV.out)
          have PK := Lib.hid ((hb.block _ (blk_lt PK.out)).trans PK.out)
          have RK := Lib.hid (RK.out.below hb)
          have RV := Lib.hid (RV.out.below hb)
          have PQ := Lib.hid ((hb.block _ (blk_lt PQ.out)).trans PQ.out)
          have MQ := Lib.hid hle
          have FQ := Lib.hid (fresh_le hfr hg1)
          have RQ := Lib.hid hes
          clear hes hle hfr hg1
          go_wp2_with fail
          refine hK.out _ _ (⟨hS.1.trans (hb.mono hS.1.size), (hb.block _ (blk_lt hS.2.1)).trans hS.2.1, (hb.block _ (blk_lt hS.2.2)).trans hS.2.2⟩) (fun hHeld => ?_)
          clear hK K
          try simp only [Act.put, List.setIfInBounds_toArray, List.set_cons_succ, List.set_cons_zero]
          clear hS
          have hS := hHeld
          clear hHeld
          clear hb
          refine' wpAnyH_take (i := 20) ?h1x20jx12x6x7x13x18x19 ?hsx20jx12x6x7x13x18x19 ?hfx20jx12x6x7x13x18x19 ?hrx20jx12x6x7x13x18x19 ?hQx20jx12x6x7x13x18x19 (Or.inl ⟨?hwx20jx12x6x7x13x18x19, ?hyx20jx12x6x7x13x18x19⟩) hS ?restx20jx12x6x7x13x18x19
          case h1x20jx12x6x7x13x18x19 => (simp only [List.getElem?_toArray, List.getElem?_cons_succ, List.getElem?_cons_zero]; rfl)
          case hsx20jx12x6x7x13x18x19 => kernel_rfl
          case hfx20jx12x6x7x13x18x19 => kernel_rfl
          case hrx20jx12x6x7x13x18x19 => kernel_rfl
          case hQx20jx12x6x7x13x18x19 => exact fun _ _ _ h => h
          case hwx20jx12x6x7x13x18x19 => rfl
          case hyx20jx12x6x7x13x18x19 =>
            intro W hW
            have bb := b26f lf yK yV yQ kK kV kQ dK dV dQ W
            go_simp
            try with_reducible rfl
          simp only [Act.put, List.setIfInBounds_toArray, List.set_cons_succ, List.set_cons_zero]
          refine wpAnyH_ready (rs := [21]) (by kernel_rfl) (by simp) ?_
          refine' (AllReadyH.cons ?hoc21jx12x6x7x13x18x19 (fun K hK => ?stc21jx12x6x7x13x18x19) AllReadyH.nil)
          case hoc21jx12x6x7x13x18x19 => (simp only [List.getElem?_toArray, List.getElem?_cons_succ, List.getElem?_cons_zero]; rfl)
          refine step_store_row rfl 26 (.tmp 4) (.tmp 34) rfl (w.heap.size + 2) #[.bool lf, .slice yK kK dK, .slice yV kV dV, .slice yQ kQ dQ] rfl rfl 26 _ G2.out (size26' _ _ _ _) (by rw [Z4.out]; rfl) (by simp [Value.oneCell']) ?_
          have q2 := setRow_heap Wjx12x6x7x13x18x19 (w.heap.size + 2) _ #[.bool lf, .slice yK kK dK, .slice yV kV dV, .slice yQ kQ dQ] 26 _ G2.out
          have rK := RK.out.setRow (cs := #[.bool lf, .slice yK kK dK, .slice yV kV dV, .slice yQ kQ dQ]) FK.out (Nat.lt_succ_self _)
          have rV := RV.out.setRow (cs := #[.bool lf, .slice yK kK dK, .slice yV kV dV, .slice yQ kQ dQ]) FV.out (Nat.lt_succ_self _)
          have rQ := RQ.out.setRow (cs := #[.bool lf, .slice yK kK dK, .slice yV kV dV, .slice yQ kQ dQ]) FQ.out (Nat.lt_succ_self _)
          have hS2 := hS.1.trans (below_row (B := w.heap.size) Wjx12x6x7x13x18x19 #[.bool lf, .slice yK kK dK, .slice yV kV dV, .slice yQ kQ dQ] (show w.heap.size ≤ w.heap.size + 2 by omega))
          have hS3 := (setRow_other Wjx12x6x7x13x18x19 (w.heap.size + 2) w.heap.size #[.bool lf, .slice yK kK dK, .slice yV kV dV, .slice yQ kQ dQ] (by omega)).trans hS.2.1
          have hS4 := (setRow_other Wjx12x6x7x13x18x19 (w.heap.size + 2) (w.heap.size + 1) #[.bool lf, .slice yK kK dK, .slice yV kV dV, .slice yQ kQ dQ] (by omega)).trans hS.2.2
          refine hK.out _ _ ⟨hS2, hS3, hS4⟩ (fun hHeld => ?_)
          clear hK K hHeld hS hS3 hS4
          simp only [Act.put]
          generalize Wjx12x6x7x13x18x19.setRow (w.heap.size + 2) #[.bool lf, .slice yK kK dK, .slice yV kV dV, .slice yQ kQ dQ] = wf at *
          refine wpAnyH_done (by kernel_rfl) ?_ _
          try go_wp2_with fail
          exact bodyPost_ret (v := .agg #[.bool lf, .slice yK kK dK, .slice yV kV dV, .slice yQ kQ dQ]) (results_cell_row Try.results21 _ _ (w.heap.size + 2) 26 _ (0, 0) _ rfl q2 Try.underlying26 rfl (size26' _ _ _ _)) rfl
            ⟨_, rfl, FIN.out _ _ _ _ rK rV rQ, ⟨lf, yK, kK, dK, yV, kV, dV, yQ, kQ, dQ, rfl, ⟨MK.out, MV.out, MQ.out⟩, fresh_le FK.out (by omega), fresh_le FV.out (by omega), fresh_le FQ.out (by omega)⟩, hS2⟩
        case stc18jx12x6x7 =>
          go_simp
          have hb := (Below.refl Wjx12x6x7.heap.size Wjx12x6x7).alloc (Nat.le_refl _) (.cells #[.slice x3 n3 c3, .slice y3 o3 d3] 24)
          refine hK.out _ _ (⟨hS.1.trans (hb.mono hS.1.size), (hb.block _ (blk_lt hS.2.1)).trans hS.2.1, (hb.block _ (blk_lt hS.2.2)).trans hS.2.2⟩) (fun hHeld => ?_)
          clear hK K
          try simp only [Act.put, List.setIfInBounds_toArray, List.set_cons_succ, List.set_cons_zero]
          have qPQ := heap_alloc_new Wjx12x6x7 (.cells #[.slice x3 n3 c3, .slice y3 o3 d3] 24)
          have hpQ := hS.1.size
          have qEK := EK.out.below hb
          have qEV := EV.out.below hb
          have qEQ := EQ.out.below hb
          have qDK := DK.out.below hb
          have qDV := DV.out.below hb
          have qDQ := DQ.out.below hb
          have qG2 := (hb.block _ (blk_lt G2.out)).trans G2.out
          have nepQpV : Wjx12x6x7.heap.size ≠ pV := by have := blk_lt PV.out; omega
          have qPV := (hb.block _ (blk_lt PV.out)).trans PV.out
          have nepQpK : Wjx12x6x7.heap.size ≠ pK := by have := blk_lt PK.out; omega
          have qPK := (hb.block _ (blk_lt PK.out)).trans PK.out
          have qRK := RK.out.below hb
          clear hS
          have hS := hHeld
          clear hHeld
          clear hb
          clear EK EV EQ DK DV DQ G2 PV PK RK
          generalize Wjx12x6x7.alloc (.cells #[.slice x3 n3 c3, .slice y3 o3 d3] 24) = Wjx12x6x7x18 at *
          generalize Wjx12x6x7.heap.size = pQ at *
          have EK := Lib.hid qEK
          have EV := Lib.hid qEV
          have EQ := Lib.hid qEQ
          have DK := Lib.hid qDK
          have DV := Lib.hid qDV
          have DQ := Lib.hid qDQ
          have G2 := Lib.hid qG2
          have PV := Lib.hid qPV
          have PK := Lib.hid qPK
          have RK := Lib.hid qRK
          have PQ := Lib.hid qPQ
          clear qEK qEV qEQ qDK qDV qDQ qG2 qPV qPK qRK qPQ
          refine wpAnyH_ready (rs := [13]) (by kernel_rfl) (by simp) ?_
          refine' (AllReadyH.cons ?hoc13jx12x6x7x18 (fun K hK => ?stc13jx12x6x7x18) AllReadyH.nil)
          case hoc13jx12x6x7x18 => (simp only [List.getElem?_toArray, List.getElem?_cons_succ, List.getElem?_cons_zero]; rfl)
          have hg1 := blk_lt G2.out
          go_simp
          refine (VC.out Wjx12x6x7x18 _ PV.out EV.out DV.out).mono ?_
          rintro e Wjx12x6x7x18x13 ⟨vV, rfl, hes, ⟨yV, kV, dV, rfl, hle, _⟩, hfr, hb⟩
          have EK := Lib.hid (EK.out.below hb)
          have EV := Lib.hid (EV.out.below hb)
          have EQ := Lib.hid (EQ.out.below hb)
          have DK := Lib.hid (DK.out.below hb)
          have DV := Lib.hid (DV.out.below hb)
          have DQ := Lib.hid (DQ.out.below hb)
          have G2 := Lib.hid ((hb.block _ (blk_lt G2.out)).trans G2.out)
          have PV := Lib.hid ((hb.block _ (blk_lt PV.out)).trans PV.out)
          have PK := Lib.hid ((hb.block _ (blk_lt PK.out)).trans PK.out)
          have RK := Lib.hid (RK.out.below hb)
          have PQ := Lib.hid ((hb.block _ (blk_lt PQ.out)).trans PQ.out)
          have MV := Lib.hid hle
          have FV := Lib.hid (fresh_le hfr hg1)
          have RV := Lib.hid hes
          clear hes hle hfr hg1
          go_wp2_with fail
          refine hK.out _ _ (⟨hS.1.trans (hb.mono hS.1.size), (hb.block _ (blk_lt hS.2.1)).trans hS.2.1, (hb.block _ (blk_lt hS.2.2)).trans hS.2.2⟩) (fun hHeld => ?_)
          clear hK K
          try simp only [Act.put, List.setIfInBounds_toArray, List.set_cons_succ, List.set_cons_zero]
          clear hS
          have hS := hHeld
          clear hHeld
          clear hb
          refine wpAnyH_ready (rs := [19]) (by kernel_rfl) (by simp) ?_
          refine' (AllReadyH.cons ?hoc19jx12x6x7x18x13 (fun K hK => ?stc19jx12x6x7x18x13) AllReadyH.nil)
          case hoc19jx12x6x7x18x13 => (simp only [List.getElem?_toArray, List.getElem?_cons_succ, List.getElem?_cons_zero]; rfl)
          have hg1 := blk_lt G2.out
          go_simp
          refine (QC.out Wjx12x6x7x18x13 _ PQ.out EQ.out DQ.out).mono ?_
          rintro e Wjx12x6x7x18x13x19 ⟨vQ, rfl, hes, ⟨yQ, kQ, dQ, rfl, hle, _⟩, hfr, hb⟩
          have EK := Lib.hid (EK.out.below hb)
          have EV := Lib.hid (EV.out.below hb)
          have EQ := Lib.hid (EQ.out.below hb)
          have DK := Lib.hid (DK.out.below hb)
          have DV := Lib.hid (DV.out.below hb)
          have DQ := Lib.hid (DQ.out.below hb)
          have G2 := Lib.hid ((hb.block _ (blk_lt G2.out)).trans G2.out)
          have PV := Lib.hid ((hb.block _ (blk_lt PV.out)).trans PV.out)
          have PK := Lib.hid ((hb.block _ (blk_lt PK.out)).trans PK.out)
          have RK := Lib.hid (RK.out.below hb)
          have PQ := Lib.hid ((hb.block _ (blk_lt PQ.out)).trans PQ.out)
          have RV := Lib.hid (RV.out.below hb)
          have MQ := Lib.hid hle
          have FQ := Lib.hid (fresh_le hfr hg1)
          have RQ := Lib.hid hes
          clear hes hle hfr hg1
          go_wp2_with fail
          refine hK.out _ _ (⟨hS.1.trans (hb.mono hS.1.size), (hb.block _ (blk_lt hS.2.1)).trans hS.2.1, (hb.block _ (blk_lt hS.2.2)).trans hS.2.2⟩) (fun hHeld => ?_)
          clear hK K
          try simp only [Act.put, List.setIfInBounds_toArray, List.set_cons_succ, List.set_cons_zero]
          clear hS
          have hS := hHeld
          clear hHeld
          clear hb
          refine' wpAnyH_take (i := 20) ?h1x20jx12x6x7x18x13x19 ?hsx20jx12x6x7x18x13x19 ?hfx20jx12x6x7x18x13x19 ?hrx20jx12x6x7x18x13x19 ?hQx20jx12x6x7x18x13x19 (Or.inl ⟨?hwx20jx12x6x7x18x13x19, ?hyx20jx12x6x7x18x13x19⟩) hS ?restx20jx12x6x7x18x13x19
          case h1x20jx12x6x7x18x13x19 => (simp only [List.getElem?_toArray, List.getElem?_cons_succ, List.getElem?_cons_zero]; rfl)
          case hsx20jx12x6x7x18x13x19 => kernel_rfl
          case hfx20jx12x6x7x18x13x19 => kernel_rfl
          case hrx20jx12x6x7x18x13x19 => kernel_rfl
          case hQx20jx12x6x7x18x13x19 => exact fun _ _ _ h => h
          case hwx20jx12x6x7x18x13x19 => rfl
          case hyx20jx12x6x7x18x13x19 =>
            intro W hW
            have bb := b26f lf yK yV yQ kK kV kQ dK dV dQ W
            go_simp
            try with_reducible rfl
          simp only [Act.put, List.setIfInBounds_toArray, List.set_cons_succ, List.set_cons_zero]
          refine wpAnyH_ready (rs := [21]) (by kernel_rfl) (by simp) ?_
          refine' (AllReadyH.cons ?hoc21jx12x6x7x18x13x19 (fun K hK => ?stc21jx12x6x7x18x13x19) AllReadyH.nil)
          case hoc21jx12x6x7x18x13x19 => (simp only [List.getElem?_toArray, List.getElem?_cons_succ, List.getElem?_cons_zero]; rfl)
          refine step_store_row rfl 26 (.tmp 4) (.tmp 34) rfl (w.heap.size + 2) #[.bool lf, .slice yK kK dK, .slice yV kV dV, .slice yQ kQ dQ] rfl rfl 26 _ G2.out (size26' _ _ _ _) (by rw [Z4.out]; rfl) (by simp [Value.oneCell']) ?_
          have q2 := setRow_heap Wjx12x6x7x18x13x19 (w.heap.size + 2) _ #[.bool lf, .slice yK kK dK, .slice yV kV dV, .slice yQ kQ dQ] 26 _ G2.out
          have rK := RK.out.setRow (cs := #[.bool lf, .slice yK kK dK, .slice yV kV dV, .slice yQ kQ dQ]) FK.out (Nat.lt_succ_self _)
          have rV := RV.out.setRow (cs := #[.bool lf, .slice yK kK dK, .slice yV kV dV, .slice yQ kQ dQ]) FV.out (Nat.lt_succ_self _)
          have rQ := RQ.out.setRow (cs := #[.bool lf, .slice yK kK dK, .slice yV kV dV, .slice yQ kQ dQ]) FQ.out (Nat.lt_succ_self _)
          have hS2 := hS.1.trans (below_row (B := w.heap.size) Wjx12x6x7x18x13x19 #[.bool lf, .slice yK kK dK, .slice yV kV dV, .slice yQ kQ dQ] (show w.heap.size ≤ w.heap.size + 2 by omega))
          have hS3 := (setRow_other Wjx12x6x7x18x13x19 (w.heap.size + 2) w.heap.size #[.bool lf, .slice yK kK dK, .slice yV kV dV, .slice yQ kQ dQ] (by omega)).trans hS.2.1
          have hS4 := (setRow_other Wjx12x6x7x18x13x19 (w.heap.size + 2) (w.heap.size + 1) #[.bool lf, .slice yK kK dK, .slice yV kV dV, .slice yQ kQ dQ] (by omega)).trans hS.2.2
          refine hK.out _ _ ⟨hS2, hS3, hS4⟩ (fun hHeld => ?_)
          clear hK K hHeld hS hS3 hS4
          simp only [Act.put]
          generalize Wjx12x6x7x18x13x19.setRow (w.heap.size + 2) #[.bool lf, .slice yK kK dK, .slice yV kV dV, .slice yQ kQ dQ] = wf at *
          refine wpAnyH_done (by kernel_rfl) ?_ _
          try go_wp2_with fail
          exact bodyPost_ret (v := .agg #[.bool lf, .slice yK kK dK, .slice yV kV dV, .slice yQ kQ dQ]) (results_cell_row Try.results21 _ _ (w.heap.size + 2) 26 _ (0, 0) _ rfl q2 Try.underlying26 rfl (size26' _ _ _ _)) rfl
            ⟨_, rfl, FIN.out _ _ _ _ rK rV rQ, ⟨lf, yK, kK, dK, yV, kV, dV, yQ, kQ, dQ, rfl, ⟨MK.out, MV.out, MQ.out⟩, fresh_le FK.out (by omega), fresh_le FV.out (by omega), fresh_le FQ.out (by omega)⟩, hS2⟩
      case stc18jx12x6 =>
        go_simp
        have hb := (Below.refl Wjx12x6.heap.size Wjx12x6).alloc (Nat.le_refl _) (.cells #[.slice x3 n3 c3, .slice y3 o3 d3] 24)
        refine hK.out _ _ (⟨hS.1.trans (hb.mono hS.1.size), (hb.block _ (blk_lt hS.2.1)).trans hS.2.1, (hb.block _ (blk_lt hS.2.2)).trans hS.2.2⟩) (fun hHeld => ?_)
        clear hK K
        try simp only [Act.put, List.setIfInBounds_toArray, List.set_cons_succ, List.set_cons_zero]
        have qPQ := heap_alloc_new Wjx12x6 (.cells #[.slice x3 n3 c3, .slice y3 o3 d3] 24)
        have hpQ := hS.1.size
        have qEK := EK.out.below hb
        have qEV := EV.out.below hb
        have qEQ := EQ.out.below hb
        have qDK := DK.out.below hb
        have qDV := DV.out.below hb
        have qDQ := DQ.out.below hb
        have qG2 := (hb.block _ (blk_lt G2.out)).trans G2.out
        have nepQpV : Wjx12x6.heap.size ≠ pV := by have := blk_lt PV.out; omega
        have qPV := (hb.block _ (blk_lt PV.out)).trans PV.out
        have nepQpK : Wjx12x6.heap.size ≠ pK := by have := blk_lt PK.out; omega
        have qPK := (hb.block _ (blk_lt PK.out)).trans PK.out
        clear hS
        have hS := hHeld
        clear hHeld
        clear hb
        clear EK EV EQ DK DV DQ G2 PV PK
        generalize Wjx12x6.alloc (.cells #[.slice x3 n3 c3, .slice y3 o3 d3] 24) = Wjx12x6x18 at *
        generalize Wjx12x6.heap.size = pQ at *
        have EK := Lib.hid qEK
        have EV := Lib.hid qEV
        have EQ := Lib.hid qEQ
        have DK := Lib.hid qDK
        have DV := Lib.hid qDV
        have DQ := Lib.hid qDQ
        have G2 := Lib.hid qG2
        have PV := Lib.hid qPV
        have PK := Lib.hid qPK
        have PQ := Lib.hid qPQ
        clear qEK qEV qEQ qDK qDV qDQ qG2 qPV qPK qPQ
        refine wpAnyH_ready (rs := [7]) (by kernel_rfl) (by simp) ?_
        refine' (AllReadyH.cons ?hoc7jx12x6x18 (fun K hK => ?stc7jx12x6x18) AllReadyH.nil)
        case hoc7jx12x6x18 => (simp only [List.getElem?_toArray, List.getElem?_cons_succ, List.getElem?_cons_zero]; rfl)
        have hg1 := blk_lt G2.out
        go_simp
        refine (KC.out Wjx12x6x18 _ PK.out EK.out DK.out).mono ?_
        rintro e Wjx12x6x18x7 ⟨vK, rfl, hes, ⟨yK, kK, dK, rfl, hle, _⟩, hfr, hb⟩
        have EK := Lib.hid (EK.out.below hb)
        have EV := Lib.hid (EV.out.below hb)
        have EQ := Lib.hid (EQ.out.below hb)
        have DK := Lib.hid (DK.out.below hb)
        have DV := Lib.hid (DV.out.below hb)
        have DQ := Lib.hid (DQ.out.below hb)
        have G2 := Lib.hid ((hb.block _ (blk_lt G2.out)).trans G2.out)
        have PV := Lib.hid ((hb.block _ (blk_lt PV.out)).trans PV.out)
        have PK := Lib.hid ((hb.block _ (blk_lt PK.out)).trans PK.out)
        have PQ := Lib.hid ((hb.block _ (blk_lt PQ.out)).trans PQ.out)
        have MK := Lib.hid hle
        have FK := Lib.hid (fresh_le hfr hg1)
        have RK := Lib.hid hes
        clear hes hle hfr hg1
        go_wp2_with fail
        refine hK.out _ _ (⟨hS.1.trans (hb.mono hS.1.size), (hb.block _ (blk_lt hS.2.1)).trans hS.2.1, (hb.block _ (blk_lt hS.2.2)).trans hS.2.2⟩) (fun hHeld => ?_)
        clear hK K
        try simp only [Act.put, List.setIfInBounds_toArray, List.set_cons_succ, List.set_cons_zero]
        clear hS
        have hS := hHeld
        clear hHeld
        clear hb
        refine wpAnyH_ready (rs := [13]) (by kernel_rfl) (by simp) ?_
        refine' (AllReadyH.cons ?hoc13jx12x6x18x7 (fun K hK => ?stc13jx12x6x18x7) AllReadyH.nil)
        case hoc13jx12x6x18x7 => (simp only [List.getElem?_toArray, List.getElem?_cons_succ, List.getElem?_cons_zero]; rfl)
        have hg1 := blk_lt G2.out
        go_simp
        refine (VC.out Wjx12x6x18x7 _ PV.out EV.out DV.out).mono ?_
        rintro e Wjx12x6x18x7x13 ⟨vV, rfl, hes, ⟨yV, kV, dV, rfl, hle, _⟩, hfr, hb⟩
        have EK := Lib.hid (EK.out.below hb)
        have EV := Lib.hid (EV.out.below hb)
        have EQ := Lib.hid (EQ.out.below hb)
        have DK := Lib.hid (DK.out.below hb)
        have DV := Lib.hid (DV.out.below hb)
        have DQ := Lib.hid (DQ.out.below hb)
        have G2 := Lib.hid ((hb.block _ (blk_lt G2.out)).trans G2.out)
        have PV := Lib.hid ((hb.block _ (blk_lt PV.out)).trans PV.out)
        have PK := Lib.hid ((hb.block _ (blk_lt PK.out)).trans PK.out)
        have PQ := Lib.hid ((hb.block _ (blk_lt PQ.out)).trans PQ.out)
        have RK := Lib.hid (RK.out.below hb)
        have MV := Lib.hid hle
        have FV := Lib.hid (fresh_le hfr hg1)
        have RV := Lib.hid hes
        clear hes hle hfr hg1
        go_wp2_with fail
        refine hK.out _ _ (⟨hS.1.trans (hb.mono hS.1.size), (hb.block _ (blk_lt hS.2.1)).trans hS.2.1, (hb.block _ (blk_lt hS.2.2)).trans hS.2.2⟩) (fun hHeld => ?_)
        clear hK K
        try simp only [Act.put, List.setIfInBounds_toArray, List.set_cons_succ, List.set_cons_zero]
        clear hS
        have hS := hHeld
        clear hHeld
        clear hb
        refine wpAnyH_ready (rs := [19]) (by kernel_rfl) (by simp) ?_
        refine' (AllReadyH.cons ?hoc19jx12x6x18x7x13 (fun K hK => ?stc19jx12x6x18x7x13) AllReadyH.nil)
        case hoc19jx12x6x18x7x13 => (simp only [List.getElem?_toArray, List.getElem?_cons_succ, List.getElem?_cons_zero]; rfl)
        have hg1 := blk_lt G2.out
        go_simp
        refine (QC.out Wjx12x6x18x7x13 _ PQ.out EQ.out DQ.out).mono ?_
        rintro e Wjx12x6x18x7x13x19 ⟨vQ, rfl, hes, ⟨yQ, kQ, dQ, rfl, hle, _⟩, hfr, hb⟩
        have EK := Lib.hid (EK.out.below hb)
        have EV := Lib.hid (EV.out.below hb)
        have EQ := Lib.hid (EQ.out.below hb)
        have DK := Lib.hid (DK.out.below hb)
        have DV := Lib.hid (DV.out.below hb)
        have DQ := Lib.hid (DQ.out.below hb)
        have G2 := Lib.hid ((hb.block _ (blk_lt G2.out)).trans G2.out)
        have PV := Lib.hid ((hb.block _ (blk_lt PV.out)).trans PV.out)
        have PK := Lib.hid ((hb.block _ (blk_lt PK.out)).trans PK.out)
        have PQ := Lib.hid ((hb.block _ (blk_lt PQ.out)).trans PQ.out)
        have RK := Lib.hid (RK.out.below hb)
        have RV := Lib.hid (RV.out.below hb)
        have MQ := Lib.hid hle
        have FQ := Lib.hid (fresh_le hfr hg1)
        have RQ := Lib.hid hes
        clear hes hle hfr hg1
        go_wp2_with fail
        refine hK.out _ _ (⟨hS.1.trans (hb.mono hS.1.size), (hb.block _ (blk_lt hS.2.1)).trans hS.2.1, (hb.block _ (blk_lt hS.2.2)).trans hS.2.2⟩) (fun hHeld => ?_)
        clear hK K
        try simp only [Act.put, List.setIfInBounds_toArray, List.set_cons_succ, List.set_cons_zero]
        clear hS
        have hS := hHeld
        clear hHeld
        clear hb
        refine' wpAnyH_take (i := 20) ?h1x20jx12x6x18x7x13x19 ?hsx20jx12x6x18x7x13x19 ?hfx20jx12x6x18x7x13x19 ?hrx20jx12x6x18x7x13x19 ?hQx20jx12x6x18x7x13x19 (Or.inl ⟨?hwx20jx12x6x18x7x13x19, ?hyx20jx12x6x18x7x13x19⟩) hS ?restx20jx12x6x18x7x13x19
        case h1x20jx12x6x18x7x13x19 => (simp only [List.getElem?_toArray, List.getElem?_cons_succ, List.getElem?_cons_zero]; rfl)
        case hsx20jx12x6x18x7x13x19 => kernel_rfl
        case hfx20jx12x6x18x7x13x19 => kernel_rfl
        case hrx20jx12x6x18x7x13x19 => kernel_rfl
        case hQx20jx12x6x18x7x13x19 => exact fun _ _ _ h => h
        case hwx20jx12x6x18x7x13x19 => rfl
        case hyx20jx12x6x18x7x13x19 =>
          intro W hW
          have bb := b26f lf yK yV yQ kK kV kQ dK dV dQ W
          go_simp
          try with_reducible rfl
        simp only [Act.put, List.setIfInBounds_toArray, List.set_cons_succ, List.set_cons_zero]
        refine wpAnyH_ready (rs := [21]) (by kernel_rfl) (by simp) ?_
        refine' (AllReadyH.cons ?hoc21jx12x6x18x7x13x19 (fun K hK => ?stc21jx12x6x18x7x13x19) AllReadyH.nil)
        case hoc21jx12x6x18x7x13x19 => (simp only [List.getElem?_toArray, List.getElem?_cons_succ, List.getElem?_cons_zero]; rfl)
        refine step_store_row rfl 26 (.tmp 4) (.tmp 34) rfl (w.heap.size + 2) #[.bool lf, .slice yK kK dK, .slice yV kV dV, .slice yQ kQ dQ] rfl rfl 26 _ G2.out (size26' _ _ _ _) (by rw [Z4.out]; rfl) (by simp [Value.oneCell']) ?_
        have q2 := setRow_heap Wjx12x6x18x7x13x19 (w.heap.size + 2) _ #[.bool lf, .slice yK kK dK, .slice yV kV dV, .slice yQ kQ dQ] 26 _ G2.out
        have rK := RK.out.setRow (cs := #[.bool lf, .slice yK kK dK, .slice yV kV dV, .slice yQ kQ dQ]) FK.out (Nat.lt_succ_self _)
        have rV := RV.out.setRow (cs := #[.bool lf, .slice yK kK dK, .slice yV kV dV, .slice yQ kQ dQ]) FV.out (Nat.lt_succ_self _)
        have rQ := RQ.out.setRow (cs := #[.bool lf, .slice yK kK dK, .slice yV kV dV, .slice yQ kQ dQ]) FQ.out (Nat.lt_succ_self _)
        have hS2 := hS.1.trans (below_row (B := w.heap.size) Wjx12x6x18x7x13x19 #[.bool lf, .slice yK kK dK, .slice yV kV dV, .slice yQ kQ dQ] (show w.heap.size ≤ w.heap.size + 2 by omega))
        have hS3 := (setRow_other Wjx12x6x18x7x13x19 (w.heap.size + 2) w.heap.size #[.bool lf, .slice yK kK dK, .slice yV kV dV, .slice yQ kQ dQ] (by omega)).trans hS.2.1
        have hS4 := (setRow_other Wjx12x6x18x7x13x19 (w.heap.size + 2) (w.heap.size + 1) #[.bool lf, .slice yK kK dK, .slice yV kV dV, .slice yQ kQ dQ] (by omega)).trans hS.2.2
        refine hK.out _ _ ⟨hS2, hS3, hS4⟩ (fun hHeld => ?_)
        clear hK K hHeld hS hS3 hS4
        simp only [Act.put]
        generalize Wjx12x6x18x7x13x19.setRow (w.heap.size + 2) #[.bool lf, .slice yK kK dK, .slice yV kV dV, .slice yQ kQ dQ] = wf at *
        refine wpAnyH_done (by kernel_rfl) ?_ _
        try go_wp2_with fail
        exact bodyPost_ret (v := .agg #[.bool lf, .slice yK kK dK, .slice yV kV dV, .slice yQ kQ dQ]) (results_cell_row Try.results21 _ _ (w.heap.size + 2) 26 _ (0, 0) _ rfl q2 Try.underlying26 rfl (size26' _ _ _ _)) rfl
          ⟨_, rfl, FIN.out _ _ _ _ rK rV rQ, ⟨lf, yK, kK, dK, yV, kV, dV, yQ, kQ, dQ, rfl, ⟨MK.out, MV.out, MQ.out⟩, fresh_le FK.out (by omega), fresh_le FV.out (by omega), fresh_le FQ.out (by omega)⟩, hS2⟩
    case stc18jx12 =>
      go_simp
      have hb := (Below.refl Wjx12.heap.size Wjx12).alloc (Nat.le_refl _) (.cells #[.slice x3 n3 c3, .slice y3 o3 d3] 24)
      refine hK.out _ _ (⟨hS.1.trans (hb.mono hS.1.size), (hb.block _ (blk_lt hS.2.1)).trans hS.2.1, (hb.block _ (blk_lt hS.2.2)).trans hS.2.2⟩) (fun hHeld => ?_)
      clear hK K
      try simp only [Act.put, List.setIfInBounds_toArray, List.set_cons_succ, List.set_cons_zero]
      have qPQ := heap_alloc_new Wjx12 (.cells #[.slice x3 n3 c3, .slice y3 o3 d3] 24)
      have hpQ := hS.1.size
      have qEK := EK.out.below hb
      have qEV := EV.out.below hb
      have qEQ := EQ.out.below hb
      have qDK := DK.out.below hb
      have qDV := DV.out.below hb
      have qDQ := DQ.out.below hb
      have qG2 := (hb.block _ (blk_lt G2.out)).trans G2.out
      have nepQpV : Wjx12.heap.size ≠ pV := by have := blk_lt PV.out; omega
      have qPV := (hb.block _ (blk_lt PV.out)).trans PV.out
      clear hS
      have hS := hHeld
      clear hHeld
      clear hb
      clear EK EV EQ DK DV DQ G2 PV
      generalize Wjx12.alloc (.cells #[.slice x3 n3 c3, .slice y3 o3 d3] 24) = Wjx12x18 at *
      generalize Wjx12.heap.size = pQ at *
      have EK := Lib.hid qEK
      have EV := Lib.hid qEV
      have EQ := Lib.hid qEQ
      have DK := Lib.hid qDK
      have DV := Lib.hid qDV
      have DQ := Lib.hid qDQ
      have G2 := Lib.hid qG2
      have PV := Lib.hid qPV
      have PQ := Lib.hid qPQ
      clear qEK qEV qEQ qDK qDV qDQ qG2 qPV qPQ
      refine wpAnyH_ready (rs := [6]) (by kernel_rfl) (by simp) ?_
      refine' (AllReadyH.cons ?hoc6jx12x18 (fun K hK => ?stc6jx12x18) AllReadyH.nil)
      case hoc6jx12x18 => (simp only [List.getElem?_toArray, List.getElem?_cons_succ, List.getElem?_cons_zero]; rfl)
      go_simp
      have hb := (Below.refl Wjx12x18.heap.size Wjx12x18).alloc (Nat.le_refl _) (.cells #[.slice x1 n1 c1, .slice y1 o1 d1] 22)
      refine hK.out _ _ (⟨hS.1.trans (hb.mono hS.1.size), (hb.block _ (blk_lt hS.2.1)).trans hS.2.1, (hb.block _ (blk_lt hS.2.2)).trans hS.2.2⟩) (fun hHeld => ?_)
      clear hK K
      try simp only [Act.put, List.setIfInBounds_toArray, List.set_cons_succ, List.set_cons_zero]
      have qPK := heap_alloc_new Wjx12x18 (.cells #[.slice x1 n1 c1, .slice y1 o1 d1] 22)
      have hpK := hS.1.size
      have qEK := EK.out.below hb
      have qEV := EV.out.below hb
      have qEQ := EQ.out.below hb
      have qDK := DK.out.below hb
      have qDV := DV.out.below hb
      have qDQ := DQ.out.below hb
      have qG2 := (hb.block _ (blk_lt G2.out)).trans G2.out
      have nepKpV : Wjx12x18.heap.size ≠ pV := by have := blk_lt PV.out; omega
      have qPV := (hb.block _ (blk_lt PV.out)).trans PV.out
      have nepKpQ : Wjx12x18.heap.size ≠ pQ := by have := blk_lt PQ.out; omega
      have qPQ := (hb.block _ (blk_lt PQ.out)).trans PQ.out
      clear hS
      have hS := hHeld
      clear hHeld
      clear hb
      clear EK EV EQ DK DV DQ G2 PV PQ
      generalize Wjx12x18.alloc (.cells #[.slice x1 n1 c1, .slice y1 o1 d1] 22) = Wjx12x18x6 at *
      generalize Wjx12x18.heap.size = pK at *
      have EK := Lib.hid qEK
      have EV := Lib.hid qEV
      have EQ := Lib.hid qEQ
      have DK := Lib.hid qDK
      have DV := Lib.hid qDV
      have DQ := Lib.hid qDQ
      have G2 := Lib.hid qG2
      have PV := Lib.hid qPV
      have PQ := Lib.hid qPQ
      have PK := Lib.hid qPK
      clear qEK qEV qEQ qDK qDV qDQ qG2 qPV qPQ qPK
      refine wpAnyH_ready (rs := [7]) (by kernel_rfl) (by simp) ?_
      refine' (AllReadyH.cons ?hoc7jx12x18x6 (fun K hK => ?stc7jx12x18x6) AllReadyH.nil)
      case hoc7jx12x18x6 => (simp only [List.getElem?_toArray, List.getElem?_cons_succ, List.getElem?_cons_zero]; rfl)
      have hg1 := blk_lt G2.out
      go_simp
      refine (KC.out Wjx12x18x6 _ PK.out EK.out DK.out).mono ?_
      rintro e Wjx12x18x6x7 ⟨vK, rfl, hes, ⟨yK, kK, dK, rfl, hle, _⟩, hfr, hb⟩
      have EK := Lib.hid (EK.out.below hb)
      have EV := Lib.hid (EV.out.below hb)
      have EQ := Lib.hid (EQ.out.below hb)
      have DK := Lib.hid (DK.out.below hb)
      have DV := Lib.hid (DV.out.below hb)
      have DQ := Lib.hid (DQ.out.below hb)
      have G2 := Lib.hid ((hb.block _ (blk_lt G2.out)).trans G2.out)
      have PV := Lib.hid ((hb.block _ (blk_lt PV.out)).trans PV.out)
      have PQ := Lib.hid ((hb.block _ (blk_lt PQ.out)).trans PQ.out)
      have PK := Lib.hid ((hb.block _ (blk_lt PK.out)).trans PK.out)
      have MK := Lib.hid hle
      have FK := Lib.hid (fresh_le hfr hg1)
      have RK := Lib.hid hes
      clear hes hle hfr hg1
      go_wp2_with fail
      refine hK.out _ _ (⟨hS.1.trans (hb.mono hS.1.size), (hb.block _ (blk_lt hS.2.1)).trans hS.2.1, (hb.block _ (blk_lt hS.2.2)).trans hS.2.2⟩) (fun hHeld => ?_)
      clear hK K
      try simp only [Act.put, List.setIfInBounds_toArray, List.set_cons_succ, List.set_cons_zero]
      clear hS
      have hS := hHeld
      clear hHeld
      clear hb
      refine wpAnyH_ready (rs := [13]) (by kernel_rfl) (by simp) ?_
      refine' (AllReadyH.cons ?hoc13jx12x18x6x7 (fun K hK => ?stc13jx12x18x6x7) AllReadyH.nil)
      case hoc13jx12x18x6x7 => (simp only [List.getElem?_toArray, List.getElem?_cons_succ, List.getElem?_cons_zero]; rfl)
      have hg1 := blk_lt G2.out
      go_simp
      refine (VC.out Wjx12x18x6x7 _ PV.out EV.out DV.out).mono ?_
      rintro e Wjx12x18x6x7x13 ⟨vV, rfl, hes, ⟨yV, kV, dV, rfl, hle, _⟩, hfr, hb⟩
      have EK := Lib.hid (EK.out.below hb)
      have EV := Lib.hid (EV.out.below hb)
      have EQ := Lib.hid (EQ.out.below hb)
      have DK := Lib.hid (DK.out.below hb)
      have DV := Lib.hid (DV.out.below hb)
      have DQ := Lib.hid (DQ.out.below hb)
      have G2 := Lib.hid ((hb.block _ (blk_lt G2.out)).trans G2.out)
      have PV := Lib.hid ((hb.block _ (blk_lt PV.out)).trans PV.out)
      have PQ := Lib.hid ((hb.block _ (blk_lt PQ.out)).trans PQ.out)
      have PK := Lib.hid ((hb.block _ (blk_lt PK.out)).trans PK.out)
      have RK := Lib.hid (RK.out.below hb)
      have MV := Lib.hid hle
      have FV := Lib.hid (fresh_le hfr hg1)
      have RV := Lib.hid hes
      clear hes hle hfr hg1
      go_wp2_with fail
      refine hK.out _ _ (⟨hS.1.trans (hb.mono hS.1.size), (hb.block _ (blk_lt hS.2.1)).trans hS.2.1, (hb.block _ (blk_lt hS.2.2)).trans hS.2.2⟩) (fun hHeld => ?_)
      clear hK K
      try simp only [Act.put, List.setIfInBounds_toArray, List.set_cons_succ, List.set_cons_zero]
      clear hS
      have hS := hHeld
      clear hHeld
      clear hb
      refine wpAnyH_ready (rs := [19]) (by kernel_rfl) (by simp) ?_
      refine' (AllReadyH.cons ?hoc19jx12x18x6x7x13 (fun K hK => ?stc19jx12x18x6x7x13) AllReadyH.nil)
      case hoc19jx12x18x6x7x13 => (simp only [List.getElem?_toArray, List.getElem?_cons_succ, List.getElem?_cons_zero]; rfl)
      have hg1 := blk_lt G2.out
      go_simp
      refine (QC.out Wjx12x18x6x7x13 _ PQ.out EQ.out DQ.out).mono ?_
      rintro e Wjx12x18x6x7x13x19 ⟨vQ, rfl, hes, ⟨yQ, kQ, dQ, rfl, hle, _⟩, hfr, hb⟩
      have EK := Lib.hid (EK.out.below hb)
      have EV := Lib.hid (EV.out.below hb)
      have EQ := Lib.hid (EQ.out.below hb)
      have DK := Lib.hid (DK.out.below hb)
      have DV := Lib.hid (DV.out.below hb)
      have DQ := Lib.hid (DQ.out.below hb)
      have G2 := Lib.hid ((hb.block _ (blk_lt G2.out)).trans G2.out)
      have PV := Lib.hid ((hb.block _ (blk_lt PV.out)).trans PV.out)
      have PQ := Lib.hid ((hb.block _ (blk_lt PQ.out)).trans PQ.out)
      have PK := Lib.hid ((hb.block _ (blk_lt PK.out)).trans PK.out)
      have RK := Lib.hid (RK.out.below hb)
      have RV := Lib.hid (RV.out.below hb)
      have MQ := Lib.hid hle
      have FQ := Lib.hid (fresh_le hfr hg1)
      have RQ := Lib.hid hes
      clear hes hle hfr hg1
      go_wp2_with fail
      refine hK.out _ _ (⟨hS.1.trans (hb.mono hS.1.size), (hb.block _ (blk_lt hS.2.1)).trans hS.2.1, (hb.block _ (blk_lt hS.2.2)).trans hS.2.2⟩) (fun hHeld => ?_)
      clear hK K
      try simp only [Act.put, List.setIfInBounds_toArray, List.set_cons_succ, List.set_cons_zero]
      clear hS
      have hS := hHeld
      clear hHeld
      clear hb
      refine' wpAnyH_take (i := 20) ?h1x20jx12x18x6x7x13x19 ?hsx20jx12x18x6x7x13x19 ?hfx20jx12x18x6x7x13x19 ?hrx20jx12x18x6x7x13x19 ?hQx20jx12x18x6x7x13x19 (Or.inl ⟨?hwx20jx12x18x6x7x13x19, ?hyx20jx12x18x6x7x13x19⟩) hS ?restx20jx12x18x6x7x13x19
      case h1x20jx12x18x6x7x13x19 => (simp only [List.getElem?_toArray, List.getElem?_cons_succ, List.getElem?_cons_zero]; rfl)
      case hsx20jx12x18x6x7x13x19 => kernel_rfl
      case hfx20jx12x18x6x7x13x19 => kernel_rfl
      case hrx20jx12x18x6x7x13x19 => kernel_rfl
      case hQx20jx12x18x6x7x13x19 => exact fun _ _ _ h => h
      case hwx20jx12x18x6x7x13x19 => rfl
      case hyx20jx12x18x6x7x13x19 =>
        intro W hW
        have bb := b26f lf yK yV yQ kK kV kQ dK dV dQ W
        go_simp
        try with_reducible rfl
      simp only [Act.put, List.setIfInBounds_toArray, List.set_cons_succ, List.set_cons_zero]
      refine wpAnyH_ready (rs := [21]) (by kernel_rfl) (by simp) ?_
      refine' (AllReadyH.cons ?hoc21jx12x18x6x7x13x19 (fun K hK => ?stc21jx12x18x6x7x13x19) AllReadyH.nil)
      case hoc21jx12x18x6x7x13x19 => (simp only [List.getElem?_toArray, List.getElem?_cons_succ, List.getElem?_cons_zero]; rfl)
      refine step_store_row rfl 26 (.tmp 4) (.tmp 34) rfl (w.heap.size + 2) #[.bool lf, .slice yK kK dK, .slice yV kV dV, .slice yQ kQ dQ] rfl rfl 26 _ G2.out (size26' _ _ _ _) (by rw [Z4.out]; rfl) (by simp [Value.oneCell']) ?_
      have q2 := setRow_heap Wjx12x18x6x7x13x19 (w.heap.size + 2) _ #[.bool lf, .slice yK kK dK, .slice yV kV dV, .slice yQ kQ dQ] 26 _ G2.out
      have rK := RK.out.setRow (cs := #[.bool lf, .slice yK kK dK, .slice yV kV dV, .slice yQ kQ dQ]) FK.out (Nat.lt_succ_self _)
      have rV := RV.out.setRow (cs := #[.bool lf, .slice yK kK dK, .slice yV kV dV, .slice yQ kQ dQ]) FV.out (Nat.lt_succ_self _)
      have rQ := RQ.out.setRow (cs := #[.bool lf, .slice yK kK dK, .slice yV kV dV, .slice yQ kQ dQ]) FQ.out (Nat.lt_succ_self _)
      have hS2 := hS.1.trans (below_row (B := w.heap.size) Wjx12x18x6x7x13x19 #[.bool lf, .slice yK kK dK, .slice yV kV dV, .slice yQ kQ dQ] (show w.heap.size ≤ w.heap.size + 2 by omega))
      have hS3 := (setRow_other Wjx12x18x6x7x13x19 (w.heap.size + 2) w.heap.size #[.bool lf, .slice yK kK dK, .slice yV kV dV, .slice yQ kQ dQ] (by omega)).trans hS.2.1
      have hS4 := (setRow_other Wjx12x18x6x7x13x19 (w.heap.size + 2) (w.heap.size + 1) #[.bool lf, .slice yK kK dK, .slice yV kV dV, .slice yQ kQ dQ] (by omega)).trans hS.2.2
      refine hK.out _ _ ⟨hS2, hS3, hS4⟩ (fun hHeld => ?_)
      clear hK K hHeld hS hS3 hS4
      simp only [Act.put]
      generalize Wjx12x18x6x7x13x19.setRow (w.heap.size + 2) #[.bool lf, .slice yK kK dK, .slice yV kV dV, .slice yQ kQ dQ] = wf at *
      refine wpAnyH_done (by kernel_rfl) ?_ _
      try go_wp2_with fail
      exact bodyPost_ret (v := .agg #[.bool lf, .slice yK kK dK, .slice yV kV dV, .slice yQ kQ dQ]) (results_cell_row Try.results21 _ _ (w.heap.size + 2) 26 _ (0, 0) _ rfl q2 Try.underlying26 rfl (size26' _ _ _ _)) rfl
        ⟨_, rfl, FIN.out _ _ _ _ rK rV rQ, ⟨lf, yK, kK, dK, yV, kV, dV, yQ, kQ, dQ, rfl, ⟨MK.out, MV.out, MQ.out⟩, fresh_le FK.out (by omega), fresh_le FV.out (by omega), fresh_le FQ.out (by omega)⟩, hS2⟩
  case stc18j =>
    go_simp
    have hb := (Below.refl Wjs.heap.size Wjs).alloc (Nat.le_refl _) (.cells #[.slice x3 n3 c3, .slice y3 o3 d3] 24)
    refine hK.out _ _ (⟨hS.1.trans (hb.mono hS.1.size), (hb.block _ (blk_lt hS.2.1)).trans hS.2.1, (hb.block _ (blk_lt hS.2.2)).trans hS.2.2⟩) (fun hHeld => ?_)
    clear hK K
    try simp only [Act.put, List.setIfInBounds_toArray, List.set_cons_succ, List.set_cons_zero]
    have qPQ := heap_alloc_new Wjs (.cells #[.slice x3 n3 c3, .slice y3 o3 d3] 24)
    have hpQ := hS.1.size
    have qEK := EK.out.below hb
    have qEV := EV.out.below hb
    have qEQ := EQ.out.below hb
    have qDK := DK.out.below hb
    have qDV := DV.out.below hb
    have qDQ := DQ.out.below hb
    have qG2 := (hb.block _ (blk_lt G2.out)).trans G2.out
    clear hS
    have hS := hHeld
    clear hHeld
    clear hb
    clear EK EV EQ DK DV DQ G2
    generalize Wjs.alloc (.cells #[.slice x3 n3 c3, .slice y3 o3 d3] 24) = Wjx18 at *
    generalize Wjs.heap.size = pQ at *
    have EK := Lib.hid qEK
    have EV := Lib.hid qEV
    have EQ := Lib.hid qEQ
    have DK := Lib.hid qDK
    have DV := Lib.hid qDV
    have DQ := Lib.hid qDQ
    have G2 := Lib.hid qG2
    have PQ := Lib.hid qPQ
    clear qEK qEV qEQ qDK qDV qDQ qG2 qPQ
    refine wpAnyH_ready (rs := [6, 12]) (by kernel_rfl) (by simp) ?_
    refine' (AllReadyH.cons ?hoc6jx18 (fun K hK => ?stc6jx18) (AllReadyH.cons ?hoc12jx18 (fun K hK => ?stc12jx18) AllReadyH.nil))
    case hoc6jx18 => (simp only [List.getElem?_toArray, List.getElem?_cons_succ, List.getElem?_cons_zero]; rfl)
    case hoc12jx18 => (simp only [List.getElem?_toArray, List.getElem?_cons_succ, List.getElem?_cons_zero]; rfl)
    case stc6jx18 =>
      go_simp
      have hb := (Below.refl Wjx18.heap.size Wjx18).alloc (Nat.le_refl _) (.cells #[.slice x1 n1 c1, .slice y1 o1 d1] 22)
      refine hK.out _ _ (⟨hS.1.trans (hb.mono hS.1.size), (hb.block _ (blk_lt hS.2.1)).trans hS.2.1, (hb.block _ (blk_lt hS.2.2)).trans hS.2.2⟩) (fun hHeld => ?_)
      clear hK K
      try simp only [Act.put, List.setIfInBounds_toArray, List.set_cons_succ, List.set_cons_zero]
      have qPK := heap_alloc_new Wjx18 (.cells #[.slice x1 n1 c1, .slice y1 o1 d1] 22)
      have hpK := hS.1.size
      have qEK := EK.out.below hb
      have qEV := EV.out.below hb
      have qEQ := EQ.out.below hb
      have qDK := DK.out.below hb
      have qDV := DV.out.below hb
      have qDQ := DQ.out.below hb
      have qG2 := (hb.block _ (blk_lt G2.out)).trans G2.out
      have nepKpQ : Wjx18.heap.size ≠ pQ := by have := blk_lt PQ.out; omega
      have qPQ := (hb.block _ (blk_lt PQ.out)).trans PQ.out
      clear hS
      have hS := hHeld
      clear hHeld
      clear hb
      clear EK EV EQ DK DV DQ G2 PQ
      generalize Wjx18.alloc (.cells #[.slice x1 n1 c1, .slice y1 o1 d1] 22) = Wjx18x6 at *
      generalize Wjx18.heap.size = pK at *
      have EK := Lib.hid qEK
      have EV := Lib.hid qEV
      have EQ := Lib.hid qEQ
      have DK := Lib.hid qDK
      have DV := Lib.hid qDV
      have DQ := Lib.hid qDQ
      have G2 := Lib.hid qG2
      have PQ := Lib.hid qPQ
      have PK := Lib.hid qPK
      clear qEK qEV qEQ qDK qDV qDQ qG2 qPQ qPK
      refine wpAnyH_ready (rs := [7, 12]) (by kernel_rfl) (by simp) ?_
      refine' (AllReadyH.cons ?hoc7jx18x6 (fun K hK => ?stc7jx18x6) (AllReadyH.cons ?hoc12jx18x6 (fun K hK => ?stc12jx18x6) AllReadyH.nil))
      case hoc7jx18x6 => (simp only [List.getElem?_toArray, List.getElem?_cons_succ, List.getElem?_cons_zero]; rfl)
      case hoc12jx18x6 => (simp only [List.getElem?_toArray, List.getElem?_cons_succ, List.getElem?_cons_zero]; rfl)
      case stc7jx18x6 =>
        have hg1 := blk_lt G2.out
        go_simp
        refine (KC.out Wjx18x6 _ PK.out EK.out DK.out).mono ?_
        rintro e Wjx18x6x7 ⟨vK, rfl, hes, ⟨yK, kK, dK, rfl, hle, _⟩, hfr, hb⟩
        have EK := Lib.hid (EK.out.below hb)
        have EV := Lib.hid (EV.out.below hb)
        have EQ := Lib.hid (EQ.out.below hb)
        have DK := Lib.hid (DK.out.below hb)
        have DV := Lib.hid (DV.out.below hb)
        have DQ := Lib.hid (DQ.out.below hb)
        have G2 := Lib.hid ((hb.block _ (blk_lt G2.out)).trans G2.out)
        have PQ := Lib.hid ((hb.block _ (blk_lt PQ.out)).trans PQ.out)
        have PK := Lib.hid ((hb.block _ (blk_lt PK.out)).trans PK.out)
        have MK := Lib.hid hle
        have FK := Lib.hid (fresh_le hfr hg1)
        have RK := Lib.hid hes
        clear hes hle hfr hg1
        go_wp2_with fail
        refine hK.out _ _ (⟨hS.1.trans (hb.mono hS.1.size), (hb.block _ (blk_lt hS.2.1)).trans hS.2.1, (hb.block _ (blk_lt hS.2.2)).trans hS.2.2⟩) (fun hHeld => ?_)
        clear hK K
        try simp only [Act.put, List.setIfInBounds_toArray, List.set_cons_succ, List.set_cons_zero]
        clear hS
        have hS := hHeld
        clear hHeld
        clear hb
        refine wpAnyH_ready (rs := [12]) (by kernel_rfl) (by simp) ?_
        refine' (AllReadyH.cons ?hoc12jx18x6x7 (fun K hK => ?stc12jx18x6x7) AllReadyH.nil)
        case hoc12jx18x6x7 => (simp only [List.getElem?_toArray, List.getElem?_cons_succ, List.getElem?_cons_zero]; rfl)
        go_simp
        have hb := (Below.refl Wjx18x6x7.heap.size Wjx18x6x7).alloc (Nat.le_refl _) (.cells #[.slice x2 n2 c2, .slice y2 o2 d2] 23)
        refine hK.out _ _ (⟨hS.1.trans (hb.mono hS.1.size), (hb.block _ (blk_lt hS.2.1)).trans hS.2.1, (hb.block _ (blk_lt hS.2.2)).trans hS.2.2⟩) (fun hHeld => ?_)
        clear hK K
        try simp only [Act.put, List.setIfInBounds_toArray, List.set_cons_succ, List.set_cons_zero]
        have qPV := heap_alloc_new Wjx18x6x7 (.cells #[.slice x2 n2 c2, .slice y2 o2 d2] 23)
        have hpV := hS.1.size
        have qEK := EK.out.below hb
        have qEV := EV.out.below hb
        have qEQ := EQ.out.below hb
        have qDK := DK.out.below hb
        have qDV := DV.out.below hb
        have qDQ := DQ.out.below hb
        have qG2 := (hb.block _ (blk_lt G2.out)).trans G2.out
        have nepVpQ : Wjx18x6x7.heap.size ≠ pQ := by have := blk_lt PQ.out; omega
        have qPQ := (hb.block _ (blk_lt PQ.out)).trans PQ.out
        have nepVpK : Wjx18x6x7.heap.size ≠ pK := by have := blk_lt PK.out; omega
        have qPK := (hb.block _ (blk_lt PK.out)).trans PK.out
        have qRK := RK.out.below hb
        clear hS
        have hS := hHeld
        clear hHeld
        clear hb
        clear EK EV EQ DK DV DQ G2 PQ PK RK
        generalize Wjx18x6x7.alloc (.cells #[.slice x2 n2 c2, .slice y2 o2 d2] 23) = Wjx18x6x7x12 at *
        generalize Wjx18x6x7.heap.size = pV at *
        have EK := Lib.hid qEK
        have EV := Lib.hid qEV
        have EQ := Lib.hid qEQ
        have DK := Lib.hid qDK
        have DV := Lib.hid qDV
        have DQ := Lib.hid qDQ
        have G2 := Lib.hid qG2
        have PQ := Lib.hid qPQ
        have PK := Lib.hid qPK
        have RK := Lib.hid qRK
        have PV := Lib.hid qPV
        clear qEK qEV qEQ qDK qDV qDQ qG2 qPQ qPK qRK qPV
        refine wpAnyH_ready (rs := [13]) (by kernel_rfl) (by simp) ?_
        refine' (AllReadyH.cons ?hoc13jx18x6x7x12 (fun K hK => ?stc13jx18x6x7x12) AllReadyH.nil)
        case hoc13jx18x6x7x12 => (simp only [List.getElem?_toArray, List.getElem?_cons_succ, List.getElem?_cons_zero]; rfl)
        have hg1 := blk_lt G2.out
        go_simp
        refine (VC.out Wjx18x6x7x12 _ PV.out EV.out DV.out).mono ?_
        rintro e Wjx18x6x7x12x13 ⟨vV, rfl, hes, ⟨yV, kV, dV, rfl, hle, _⟩, hfr, hb⟩
        have EK := Lib.hid (EK.out.below hb)
        have EV := Lib.hid (EV.out.below hb)
        have EQ := Lib.hid (EQ.out.below hb)
        have DK := Lib.hid (DK.out.below hb)
        have DV := Lib.hid (DV.out.below hb)
        have DQ := Lib.hid (DQ.out.below hb)
        have G2 := Lib.hid ((hb.block _ (blk_lt G2.out)).trans G2.out)
        have PQ := Lib.hid ((hb.block _ (blk_lt PQ.out)).trans PQ.out)
        have PK := Lib.hid ((hb.block _ (blk_lt PK.out)).trans PK.out)
        have RK := Lib.hid (RK.out.below hb)
        have PV := Lib.hid ((hb.block _ (blk_lt PV.out)).trans PV.out)
        have MV := Lib.hid hle
        have FV := Lib.hid (fresh_le hfr hg1)
        have RV := Lib.hid hes
        clear hes hle hfr hg1
        go_wp2_with fail
        refine hK.out _ _ (⟨hS.1.trans (hb.mono hS.1.size), (hb.block _ (blk_lt hS.2.1)).trans hS.2.1, (hb.block _ (blk_lt hS.2.2)).trans hS.2.2⟩) (fun hHeld => ?_)
        clear hK K
        try simp only [Act.put, List.setIfInBounds_toArray, List.set_cons_succ, List.set_cons_zero]
        clear hS
        have hS := hHeld
        clear hHeld
        clear hb
        refine wpAnyH_ready (rs := [19]) (by kernel_rfl) (by simp) ?_
        refine' (AllReadyH.cons ?hoc19jx18x6x7x12x13 (fun K hK => ?stc19jx18x6x7x12x13) AllReadyH.nil)
        case hoc19jx18x6x7x12x13 => (simp only [List.getElem?_toArray, List.getElem?_cons_succ, List.getElem?_cons_zero]; rfl)
        have hg1 := blk_lt G2.out
        go_simp
        refine (QC.out Wjx18x6x7x12x13 _ PQ.out EQ.out DQ.out).mono ?_
        rintro e Wjx18x6x7x12x13x19 ⟨vQ, rfl, hes, ⟨yQ, kQ, dQ, rfl, hle, _⟩, hfr, hb⟩
        have EK := Lib.hid (EK.out.below hb)
        have EV := Lib.hid (EV.out.below hb)
        have EQ := Lib.hid (EQ.out.below hb)
        have DK := Lib.hid (DK.out.below hb)
        have DV := Lib.hid (DV.out.below hb)
        have DQ := Lib.hid (DQ.out.below hb)
        have G2 := Lib.hid ((hb.block _ (blk_lt G2.out)).trans G2.out)
        have PQ := Lib.hid ((hb.block _ (blk_lt PQ.out)).trans PQ.out)
        have PK := Lib.hid ((hb.block _ (blk_lt PK.out)).trans PK.out)
        have RK := Lib.hid (RK.out.below hb)
        have PV := Lib.hid ((hb.block _ (blk_lt PV.out)).trans PV.out)
        have RV := Lib.hid (RV.out.below hb)
        have MQ := Lib.hid hle
        have FQ := Lib.hid (fresh_le hfr hg1)
        have RQ := Lib.hid hes
        clear hes hle hfr hg1
        go_wp2_with fail
        refine hK.out _ _ (⟨hS.1.trans (hb.mono hS.1.size), (hb.block _ (blk_lt hS.2.1)).trans hS.2.1, (hb.block _ (blk_lt hS.2.2)).trans hS.2.2⟩) (fun hHeld => ?_)
        clear hK K
        try simp only [Act.put, List.setIfInBounds_toArray, List.set_cons_succ, List.set_cons_zero]
        clear hS
        have hS := hHeld
        clear hHeld
        clear hb
        refine' wpAnyH_take (i := 20) ?h1x20jx18x6x7x12x13x19 ?hsx20jx18x6x7x12x13x19 ?hfx20jx18x6x7x12x13x19 ?hrx20jx18x6x7x12x13x19 ?hQx20jx18x6x7x12x13x19 (Or.inl ⟨?hwx20jx18x6x7x12x13x19, ?hyx20jx18x6x7x12x13x19⟩) hS ?restx20jx18x6x7x12x13x19
        case h1x20jx18x6x7x12x13x19 => (simp only [List.getElem?_toArray, List.getElem?_cons_succ, List.getElem?_cons_zero]; rfl)
        case hsx20jx18x6x7x12x13x19 => kernel_rfl
        case hfx20jx18x6x7x12x13x19 => kernel_rfl
        case hrx20jx18x6x7x12x13x19 => kernel_rfl
        case hQx20jx18x6x7x12x13x19 => exact fun _ _ _ h => h
        case hwx20jx18x6x7x12x13x19 => rfl
        case hyx20jx18x6x7x12x13x19 =>
          intro W hW
          have bb := b26f lf yK yV yQ kK kV kQ dK dV dQ W
          go_simp
          try with_reducible rfl
        simp only [Act.put, List.setIfInBounds_toArray, List.set_cons_succ, List.set_cons_zero]
        refine wpAnyH_ready (rs := [21]) (by kernel_rfl) (by simp) ?_
        refine' (AllReadyH.cons ?hoc21jx18x6x7x12x13x19 (fun K hK => ?stc21jx18x6x7x12x13x19) AllReadyH.nil)
        case hoc21jx18x6x7x12x13x19 => (simp only [List.getElem?_toArray, List.getElem?_cons_succ, List.getElem?_cons_zero]; rfl)
        refine step_store_row rfl 26 (.tmp 4) (.tmp 34) rfl (w.heap.size + 2) #[.bool lf, .slice yK kK dK, .slice yV kV dV, .slice yQ kQ dQ] rfl rfl 26 _ G2.out (size26' _ _ _ _) (by rw [Z4.out]; rfl) (by simp [Value.oneCell']) ?_
        have q2 := setRow_heap Wjx18x6x7x12x13x19 (w.heap.size + 2) _ #[.bool lf, .slice yK kK dK, .slice yV kV dV, .slice yQ kQ dQ] 26 _ G2.out
        have rK := RK.out.setRow (cs := #[.bool lf, .slice yK kK dK, .slice yV kV dV, .slice yQ kQ dQ]) FK.out (Nat.lt_succ_self _)
        have rV := RV.out.setRow (cs := #[.bool lf, .slice yK kK dK, .slice yV kV dV, .slice yQ kQ dQ]) FV.out (Nat.lt_succ_self _)
        have rQ := RQ.out.setRow (cs := #[.bool lf, .slice yK kK dK, .slice yV kV dV, .slice yQ kQ dQ]) FQ.out (Nat.lt_succ_self _)
        have hS2 := hS.1.trans (below_row (B := w.heap.size) Wjx18x6x7x12x13x19 #[.bool lf, .slice yK kK dK, .slice yV kV dV, .slice yQ kQ dQ] (show w.heap.size ≤ w.heap.size + 2 by omega))
        have hS3 := (setRow_other Wjx18x6x7x12x13x19 (w.heap.size + 2) w.heap.size #[.bool lf, .slice yK kK dK, .slice yV kV dV, .slice yQ kQ dQ] (by omega)).trans hS.2.1
        have hS4 := (setRow_other Wjx18x6x7x12x13x19 (w.heap.size + 2) (w.heap.size + 1) #[.bool lf, .slice yK kK dK, .slice yV kV dV, .slice yQ kQ dQ] (by omega)).trans hS.2.2
        refine hK.out _ _ ⟨hS2, hS3, hS4⟩ (fun hHeld => ?_)
        clear hK K hHeld hS hS3 hS4
        simp only [Act.put]
        generalize Wjx18x6x7x12x13x19.setRow (w.heap.size + 2) #[.bool lf, .slice yK kK dK, .slice yV kV dV, .slice yQ kQ dQ] = wf at *
        refine wpAnyH_done (by kernel_rfl) ?_ _
        try go_wp2_with fail
        exact bodyPost_ret (v := .agg #[.bool lf, .slice yK kK dK, .slice yV kV dV, .slice yQ kQ dQ]) (results_cell_row Try.results21 _ _ (w.heap.size + 2) 26 _ (0, 0) _ rfl q2 Try.underlying26 rfl (size26' _ _ _ _)) rfl
          ⟨_, rfl, FIN.out _ _ _ _ rK rV rQ, ⟨lf, yK, kK, dK, yV, kV, dV, yQ, kQ, dQ, rfl, ⟨MK.out, MV.out, MQ.out⟩, fresh_le FK.out (by omega), fresh_le FV.out (by omega), fresh_le FQ.out (by omega)⟩, hS2⟩
      case stc12jx18x6 =>
        go_simp
        have hb := (Below.refl Wjx18x6.heap.size Wjx18x6).alloc (Nat.le_refl _) (.cells #[.slice x2 n2 c2, .slice y2 o2 d2] 23)
        refine hK.out _ _ (⟨hS.1.trans (hb.mono hS.1.size), (hb.block _ (blk_lt hS.2.1)).trans hS.2.1, (hb.block _ (blk_lt hS.2.2)).trans hS.2.2⟩) (fun hHeld => ?_)
        clear hK K
        try simp only [Act.put, List.setIfInBounds_toArray, List.set_cons_succ, List.set_cons_zero]
        have qPV := heap_alloc_new Wjx18x6 (.cells #[.slice x2 n2 c2, .slice y2 o2 d2] 23)
        have hpV := hS.1.size
        have qEK := EK.out.below hb
        have qEV := EV.out.below hb
        have qEQ := EQ.out.below hb
        have qDK := DK.out.below hb
        have qDV := DV.out.below hb
        have qDQ := DQ.out.below hb
        have qG2 := (hb.block _ (blk_lt G2.out)).trans G2.out
        have nepVpQ : Wjx18x6.heap.size ≠ pQ := by have := blk_lt PQ.out; omega
        have qPQ := (hb.block _ (blk_lt PQ.out)).trans PQ.out
        have nepVpK : Wjx18x6.heap.size ≠ pK := by have := blk_lt PK.out; omega
        have qPK := (hb.block _ (blk_lt PK.out)).trans PK.out
        clear hS
        have hS := hHeld
        clear hHeld
        clear hb
        clear EK EV EQ DK DV DQ G2 PQ PK
        generalize Wjx18x6.alloc (.cells #[.slice x2 n2 c2, .slice y2 o2 d2] 23) = Wjx18x6x12 at *
        generalize Wjx18x6.heap.size = pV at *
        have EK := Lib.hid qEK
        have EV := Lib.hid qEV
        have EQ := Lib.hid qEQ
        have DK := Lib.hid qDK
        have DV := Lib.hid qDV
        have DQ := Lib.hid qDQ
        have G2 := Lib.hid qG2
        have PQ := Lib.hid qPQ
        have PK := Lib.hid qPK
        have PV := Lib.hid qPV
        clear qEK qEV qEQ qDK qDV qDQ qG2 qPQ qPK qPV
        refine wpAnyH_ready (rs := [7]) (by kernel_rfl) (by simp) ?_
        refine' (AllReadyH.cons ?hoc7jx18x6x12 (fun K hK => ?stc7jx18x6x12) AllReadyH.nil)
        case hoc7jx18x6x12 => (simp only [List.getElem?_toArray, List.getElem?_cons_succ, List.getElem?_cons_zero]; rfl)
        have hg1 := blk_lt G2.out
        go_simp
        refine (KC.out Wjx18x6x12 _ PK.out EK.out DK.out).mono ?_
        rintro e Wjx18x6x12x7 ⟨vK, rfl, hes, ⟨yK, kK, dK, rfl, hle, _⟩, hfr, hb⟩
        have EK := Lib.hid (EK.out.below hb)
        have EV := Lib.hid (EV.out.below hb)
        have EQ := Lib.hid (EQ.out.below hb)
        have DK := Lib.hid (DK.out.below hb)
        have DV := Lib.hid (DV.out.below hb)
        have DQ := Lib.hid (DQ.out.below hb)
        have G2 := Lib.hid ((hb.block _ (blk_lt G2.out)).trans G2.out)
        have PQ := Lib.hid ((hb.block _ (blk_lt PQ.out)).trans PQ.out)
        have PK := Lib.hid ((hb.block _ (blk_lt PK.out)).trans PK.out)
        have PV := Lib.hid ((hb.block _ (blk_lt PV.out)).trans PV.out)
        have MK := Lib.hid hle
        have FK := Lib.hid (fresh_le hfr hg1)
        have RK := Lib.hid hes
        clear hes hle hfr hg1
        go_wp2_with fail
        refine hK.out _ _ (⟨hS.1.trans (hb.mono hS.1.size), (hb.block _ (blk_lt hS.2.1)).trans hS.2.1, (hb.block _ (blk_lt hS.2.2)).trans hS.2.2⟩) (fun hHeld => ?_)
        clear hK K
        try simp only [Act.put, List.setIfInBounds_toArray, List.set_cons_succ, List.set_cons_zero]
        clear hS
        have hS := hHeld
        clear hHeld
        clear hb
        refine wpAnyH_ready (rs := [13]) (by kernel_rfl) (by simp) ?_
        refine' (AllReadyH.cons ?hoc13jx18x6x12x7 (fun K hK => ?stc13jx18x6x12x7) AllReadyH.nil)
        case hoc13jx18x6x12x7 => (simp only [List.getElem?_toArray, List.getElem?_cons_succ, List.getElem?_cons_zero]; rfl)
        have hg1 := blk_lt G2.out
        go_simp
        refine (VC.out Wjx18x6x12x7 _ PV.out EV.out DV.out).mono ?_
        rintro e Wjx18x6x12x7x13 ⟨vV, rfl, hes, ⟨yV, kV, dV, rfl, hle, _⟩, hfr, hb⟩
        have EK := Lib.hid (EK.out.below hb)
        have EV := Lib.hid (EV.out.below hb)
        have EQ := Lib.hid (EQ.out.below hb)
        have DK := Lib.hid (DK.out.below hb)
        have DV := Lib.hid (DV.out.below hb)
        have DQ := Lib.hid (DQ.out.below hb)
        have G2 := Lib.hid ((hb.block _ (blk_lt G2.out)).trans G2.out)
        have PQ := Lib.hid ((hb.block _ (blk_lt PQ.out)).trans PQ.out)
        have PK := Lib.hid ((hb.block _ (blk_lt PK.out)).trans PK.out)
        have PV := Lib.hid ((hb.block _ (blk_lt PV.out)).trans PV.out)
        have RK := Lib.hid (RK.out.below hb)
        have MV := Lib.hid hle
        have FV := Lib.hid (fresh_le hfr hg1)
        have RV := Lib.hid hes
        clear hes hle hfr hg1
        go_wp2_with fail
        refine hK.out _ _ (⟨hS.1.trans (hb.mono hS.1.size), (hb.block _ (blk_lt hS.2.1)).trans hS.2.1, (hb.block _ (blk_lt hS.2.2)).trans hS.2.2⟩) (fun hHeld => ?_)
        clear hK K
        try simp only [Act.put, List.setIfInBounds_toArray, List.set_cons_succ, List.set_cons_zero]
        clear hS
        have hS := hHeld
        clear hHeld
        clear hb
        refine wpAnyH_ready (rs := [19]) (by kernel_rfl) (by simp) ?_
        refine' (AllReadyH.cons ?hoc19jx18x6x12x7x13 (fun K hK => ?stc19jx18x6x12x7x13) AllReadyH.nil)
        case hoc19jx18x6x12x7x13 => (simp only [List.getElem?_toArray, List.getElem?_cons_succ, List.getElem?_cons_zero]; rfl)
        have hg1 := blk_lt G2.out
        go_simp
        refine (QC.out Wjx18x6x12x7x13 _ PQ.out EQ.out DQ.out).mono ?_
        rintro e Wjx18x6x12x7x13x19 ⟨vQ, rfl, hes, ⟨yQ, kQ, dQ, rfl, hle, _⟩, hfr, hb⟩
        have EK := Lib.hid (EK.out.below hb)
        have EV := Lib.hid (EV.out.below hb)
        have EQ := Lib.hid (EQ.out.below hb)
        have DK := Lib.hid (DK.out.below hb)
        have DV := Lib.hid (DV.out.below hb)
        have DQ := Lib.hid (DQ.out.below hb)
        have G2 := Lib.hid ((hb.block _ (blk_lt G2.out)).trans G2.out)
        have PQ := Lib.hid ((hb.block _ (blk_lt PQ.out)).trans PQ.out)
        have PK := Lib.hid ((hb.block _ (blk_lt PK.out)).trans PK.out)
        have PV := Lib.hid ((hb.block _ (blk_lt PV.out)).trans PV.out)
        have RK := Lib.hid (RK.out.below hb)
        have RV := Lib.hid (RV.out.below hb)
        have MQ := Lib.hid hle
        have FQ := Lib.hid (fresh_le hfr hg1)
        have RQ := Lib.hid hes
        clear hes hle hfr hg1
        go_wp2_with fail
        refine hK.out _ _ (⟨hS.1.trans (hb.mono hS.1.size), (hb.block _ (blk_lt hS.2.1)).trans hS.2.1, (hb.block _ (blk_lt hS.2.2)).trans hS.2.2⟩) (fun hHeld => ?_)
        clear hK K
        try simp only [Act.put, List.setIfInBounds_toArray, List.set_cons_succ, List.set_cons_zero]
        clear hS
        have hS := hHeld
        clear hHeld
        clear hb
        refine' wpAnyH_take (i := 20) ?h1x20jx18x6x12x7x13x19 ?hsx20jx18x6x12x7x13x19 ?hfx20jx18x6x12x7x13x19 ?hrx20jx18x6x12x7x13x19 ?hQx20jx18x6x12x7x13x19 (Or.inl ⟨?hwx20jx18x6x12x7x13x19, ?hyx20jx18x6x12x7x13x19⟩) hS ?restx20jx18x6x12x7x13x19
        case h1x20jx18x6x12x7x13x19 => (simp only [List.getElem?_toArray, List.getElem?_cons_succ, List.getElem?_cons_zero]; rfl)
        case hsx20jx18x6x12x7x13x19 => kernel_rfl
        case hfx20jx18x6x12x7x13x19 => kernel_rfl
        case hrx20jx18x6x12x7x13x19 => kernel_rfl
        case hQx20jx18x6x12x7x13x19 => exact fun _ _ _ h => h
        case hwx20jx18x6x12x7x13x19 => rfl
        case hyx20jx18x6x12x7x13x19 =>
          intro W hW
          have bb := b26f lf yK yV yQ kK kV kQ dK dV dQ W
          go_simp
          try with_reducible rfl
        simp only [Act.put, List.setIfInBounds_toArray, List.set_cons_succ, List.set_cons_zero]
        refine wpAnyH_ready (rs := [21]) (by kernel_rfl) (by simp) ?_
        refine' (AllReadyH.cons ?hoc21jx18x6x12x7x13x19 (fun K hK => ?stc21jx18x6x12x7x13x19) AllReadyH.nil)
        case hoc21jx18x6x12x7x13x19 => (simp only [List.getElem?_toArray, List.getElem?_cons_succ, List.getElem?_cons_zero]; rfl)
        refine step_store_row rfl 26 (.tmp 4) (.tmp 34) rfl (w.heap.size + 2) #[.bool lf, .slice yK kK dK, .slice yV kV dV, .slice yQ kQ dQ] rfl rfl 26 _ G2.out (size26' _ _ _ _) (by rw [Z4.out]; rfl) (by simp [Value.oneCell']) ?_
        have q2 := setRow_heap Wjx18x6x12x7x13x19 (w.heap.size + 2) _ #[.bool lf, .slice yK kK dK, .slice yV kV dV, .slice yQ kQ dQ] 26 _ G2.out
        have rK := RK.out.setRow (cs := #[.bool lf, .slice yK kK dK, .slice yV kV dV, .slice yQ kQ dQ]) FK.out (Nat.lt_succ_self _)
        have rV := RV.out.setRow (cs := #[.bool lf, .slice yK kK dK, .slice yV kV dV, .slice yQ kQ dQ]) FV.out (Nat.lt_succ_self _)
        have rQ := RQ.out.setRow (cs := #[.bool lf, .slice yK kK dK, .slice yV kV dV, .slice yQ kQ dQ]) FQ.out (Nat.lt_succ_self _)
        have hS2 := hS.1.trans (below_row (B := w.heap.size) Wjx18x6x12x7x13x19 #[.bool lf, .slice yK kK dK, .slice yV kV dV, .slice yQ kQ dQ] (show w.heap.size ≤ w.heap.size + 2 by omega))
        have hS3 := (setRow_other Wjx18x6x12x7x13x19 (w.heap.size + 2) w.heap.size #[.bool lf, .slice yK kK dK, .slice yV kV dV, .slice yQ kQ dQ] (by omega)).trans hS.2.1
        have hS4 := (setRow_other Wjx18x6x12x7x13x19 (w.heap.size + 2) (w.heap.size + 1) #[.bool lf, .slice yK kK dK, .slice yV kV dV, .slice yQ kQ dQ] (by omega)).trans hS.2.2
        refine hK.out _ _ ⟨hS2, hS3, hS4⟩ (fun hHeld => ?_)
        clear hK K hHeld hS hS3 hS4
        simp only [Act.put]
        generalize Wjx18x6x12x7x13x19.setRow (w.heap.size + 2) #[.bool lf, .slice yK kK dK, .slice yV kV dV, .slice yQ kQ dQ] = wf at *
        refine wpAnyH_done (by kernel_rfl) ?_ _
        try go_wp2_with fail
        exact bodyPost_ret (v := .agg #[.bool lf, .slice yK kK dK, .slice yV kV dV, .slice yQ kQ dQ]) (results_cell_row Try.results21 _ _ (w.heap.size + 2) 26 _ (0, 0) _ rfl q2 Try.underlying26 rfl (size26' _ _ _ _)) rfl
          ⟨_, rfl, FIN.out _ _ _ _ rK rV rQ, ⟨lf, yK, kK, dK, yV, kV, dV, yQ, kQ, dQ, rfl, ⟨MK.out, MV.out, MQ.out⟩, fresh_le FK.out (by omega), fresh_le FV.out (by omega), fresh_le FQ.out (by omega)⟩, hS2⟩
    case stc12jx18 =>
      go_simp
      have hb := (Below.refl Wjx18.heap.size Wjx18).alloc (Nat.le_refl _) (.cells #[.slice x2 n2 c2, .slice y2 o2 d2] 23)
      refine hK.out _ _ (⟨hS.1.trans (hb.mono hS.1.size), (hb.block _ (blk_lt hS.2.1)).trans hS.2.1, (hb.block _ (blk_lt hS.2.2)).trans hS.2.2⟩) (fun hHeld => ?_)
      clear hK K
      try simp only [Act.put, List.setIfInBounds_toArray, List.set_cons_succ, List.set_cons_zero]
      have qPV := heap_alloc_new Wjx18 (.cells #[.slice x2 n2 c2, .slice y2 o2 d2] 23)
      have hpV := hS.1.size
      have qEK := EK.out.below hb
      have qEV := EV.out.below hb
      have qEQ := EQ.out.below hb
      have qDK := DK.out.below hb
      have qDV := DV.out.below hb
      have qDQ := DQ.out.below hb
      have qG2 := (hb.block _ (blk_lt G2.out)).trans G2.out
      have nepVpQ : Wjx18.heap.size ≠ pQ := by have := blk_lt PQ.out; omega
      have qPQ := (hb.block _ (blk_lt PQ.out)).trans PQ.out
      clear hS
      have hS := hHeld
      clear hHeld
      clear hb
      clear EK EV EQ DK DV DQ G2 PQ
      generalize Wjx18.alloc (.cells #[.slice x2 n2 c2, .slice y2 o2 d2] 23) = Wjx18x12 at *
      generalize Wjx18.heap.size = pV at *
      have EK := Lib.hid qEK
      have EV := Lib.hid qEV
      have EQ := Lib.hid qEQ
      have DK := Lib.hid qDK
      have DV := Lib.hid qDV
      have DQ := Lib.hid qDQ
      have G2 := Lib.hid qG2
      have PQ := Lib.hid qPQ
      have PV := Lib.hid qPV
      clear qEK qEV qEQ qDK qDV qDQ qG2 qPQ qPV
      refine wpAnyH_ready (rs := [6]) (by kernel_rfl) (by simp) ?_
      refine' (AllReadyH.cons ?hoc6jx18x12 (fun K hK => ?stc6jx18x12) AllReadyH.nil)
      case hoc6jx18x12 => (simp only [List.getElem?_toArray, List.getElem?_cons_succ, List.getElem?_cons_zero]; rfl)
      go_simp
      have hb := (Below.refl Wjx18x12.heap.size Wjx18x12).alloc (Nat.le_refl _) (.cells #[.slice x1 n1 c1, .slice y1 o1 d1] 22)
      refine hK.out _ _ (⟨hS.1.trans (hb.mono hS.1.size), (hb.block _ (blk_lt hS.2.1)).trans hS.2.1, (hb.block _ (blk_lt hS.2.2)).trans hS.2.2⟩) (fun hHeld => ?_)
      clear hK K
      try simp only [Act.put, List.setIfInBounds_toArray, List.set_cons_succ, List.set_cons_zero]
      have qPK := heap_alloc_new Wjx18x12 (.cells #[.slice x1 n1 c1, .slice y1 o1 d1] 22)
      have hpK := hS.1.size
      have qEK := EK.out.below hb
      have qEV := EV.out.below hb
      have qEQ := EQ.out.below hb
      have qDK := DK.out.below hb
      have qDV := DV.out.below hb
      have qDQ := DQ.out.below hb
      have qG2 := (hb.block _ (blk_lt G2.out)).trans G2.out
      have nepKpQ : Wjx18x12.heap.size ≠ pQ := by have := blk_lt PQ.out; omega
      have qPQ := (hb.block _ (blk_lt PQ.out)).trans PQ.out
      have nepKpV : Wjx18x12.heap.size ≠ pV := by have := blk_lt PV.out; omega
      have qPV := (hb.block _ (blk_lt PV.out)).trans PV.out
      clear hS
      have hS := hHeld
      clear hHeld
      clear hb
      clear EK EV EQ DK DV DQ G2 PQ PV
      generalize Wjx18x12.alloc (.cells #[.slice x1 n1 c1, .slice y1 o1 d1] 22) = Wjx18x12x6 at *
      generalize Wjx18x12.heap.size = pK at *
      have EK := Lib.hid qEK
      have EV := Lib.hid qEV
      have EQ := Lib.hid qEQ
      have DK := Lib.hid qDK
      have DV := Lib.hid qDV
      have DQ := Lib.hid qDQ
      have G2 := Lib.hid qG2
      have PQ := Lib.hid qPQ
      have PV := Lib.hid qPV
      have PK := Lib.hid qPK
      clear qEK qEV qEQ qDK qDV qDQ qG2 qPQ qPV qPK
      refine wpAnyH_ready (rs := [7]) (by kernel_rfl) (by simp) ?_
      refine' (AllReadyH.cons ?hoc7jx18x12x6 (fun K hK => ?stc7jx18x12x6) AllReadyH.nil)
      case hoc7jx18x12x6 => (simp only [List.getElem?_toArray, List.getElem?_cons_succ, List.getElem?_cons_zero]; rfl)
      have hg1 := blk_lt G2.out
      go_simp
      refine (KC.out Wjx18x12x6 _ PK.out EK.out DK.out).mono ?_
      rintro e Wjx18x12x6x7 ⟨vK, rfl, hes, ⟨yK, kK, dK, rfl, hle, _⟩, hfr, hb⟩
      have EK := Lib.hid (EK.out.below hb)
      have EV := Lib.hid (EV.out.below hb)
      have EQ := Lib.hid (EQ.out.below hb)
      have DK := Lib.hid (DK.out.below hb)
      have DV := Lib.hid (DV.out.below hb)
      have DQ := Lib.hid (DQ.out.below hb)
      have G2 := Lib.hid ((hb.block _ (blk_lt G2.out)).trans G2.out)
      have PQ := Lib.hid ((hb.block _ (blk_lt PQ.out)).trans PQ.out)
      have PV := Lib.hid ((hb.block _ (blk_lt PV.out)).trans PV.out)
      have PK := Lib.hid ((hb.block _ (blk_lt PK.out)).trans PK.out)
      have MK := Lib.hid hle
      have FK := Lib.hid (fresh_le hfr hg1)
      have RK := Lib.hid hes
      clear hes hle hfr hg1
      go_wp2_with fail
      refine hK.out _ _ (⟨hS.1.trans (hb.mono hS.1.size), (hb.block _ (blk_lt hS.2.1)).trans hS.2.1, (hb.block _ (blk_lt hS.2.2)).trans hS.2.2⟩) (fun hHeld => ?_)
      clear hK K
      try simp only [Act.put, List.setIfInBounds_toArray, List.set_cons_succ, List.set_cons_zero]
      clear hS
      have hS := hHeld
      clear hHeld
      clear hb
      refine wpAnyH_ready (rs := [13]) (by kernel_rfl) (by simp) ?_
      refine' (AllReadyH.cons ?hoc13jx18x12x6x7 (fun K hK => ?stc13jx18x12x6x7) AllReadyH.nil)
      case hoc13jx18x12x6x7 => (simp only [List.getElem?_toArray, List.getElem?_cons_succ, List.getElem?_cons_zero]; rfl)
      have hg1 := blk_lt G2.out
      go_simp
      refine (VC.out Wjx18x12x6x7 _ PV.out EV.out DV.out).mono ?_
      rintro e Wjx18x12x6x7x13 ⟨vV, rfl, hes, ⟨yV, kV, dV, rfl, hle, _⟩, hfr, hb⟩
      have EK := Lib.hid (EK.out.below hb)
      have EV := Lib.hid (EV.out.below hb)
      have EQ := Lib.hid (EQ.out.below hb)
      have DK := Lib.hid (DK.out.below hb)
      have DV := Lib.hid (DV.out.below hb)
      have DQ := Lib.hid (DQ.out.below hb)
      have G2 := Lib.hid ((hb.block _ (blk_lt G2.out)).trans G2.out)
      have PQ := Lib.hid ((hb.block _ (blk_lt PQ.out)).trans PQ.out)
      have PV := Lib.hid ((hb.block _ (blk_lt PV.out)).trans PV.out)
      have PK := Lib.hid ((hb.block _ (blk_lt PK.out)).trans PK.out)
      have RK := Lib.hid (RK.out.below hb)
      have MV := Lib.hid hle
      have FV := Lib.hid (fresh_le hfr hg1)
      have RV := Lib.hid hes
      clear hes hle hfr hg1
      go_wp2_with fail
      refine hK.out _ _ (⟨hS.1.trans (hb.mono hS.1.size), (hb.block _ (blk_lt hS.2.1)).trans hS.2.1, (hb.block _ (blk_lt hS.2.2)).trans hS.2.2⟩) (fun hHeld => ?_)
      clear hK K
      try simp only [Act.put, List.setIfInBounds_toArray, List.set_cons_succ, List.set_cons_zero]
      clear hS
      have hS := hHeld
      clear hHeld
      clear hb
      refine wpAnyH_ready (rs := [19]) (by kernel_rfl) (by simp) ?_
      refine' (AllReadyH.cons ?hoc19jx18x12x6x7x13 (fun K hK => ?stc19jx18x12x6x7x13) AllReadyH.nil)
      case hoc19jx18x12x6x7x13 => (simp only [List.getElem?_toArray, List.getElem?_cons_succ, List.getElem?_cons_zero]; rfl)
      have hg1 := blk_lt G2.out
      go_simp
      refine (QC.out Wjx18x12x6x7x13 _ PQ.out EQ.out DQ.out).mono ?_
      rintro e Wjx18x12x6x7x13x19 ⟨vQ, rfl, hes, ⟨yQ, kQ, dQ, rfl, hle, _⟩, hfr, hb⟩
      have EK := Lib.hid (EK.out.below hb)
      have EV := Lib.hid (EV.out.below hb)
      have EQ := Lib.hid (EQ.out.below hb)
      have DK := Lib.hid (DK.out.below hb)
      have DV := Lib.hid (DV.out.below hb)
      have DQ := Lib.hid (DQ.out.below hb)
      have G2 := Lib.hid ((hb.block _ (blk_lt G2.out)).trans G2.out)
      have PQ := Lib.hid ((hb.block _ (blk_lt PQ.out)).trans PQ.out)
      have PV := Lib.hid ((hb.block _ (blk_lt PV.out)).trans PV.out)
      have PK := Lib.hid ((hb.block _ (blk_lt PK.out)).trans PK.out)
      have RK := Lib.hid (RK.out.below hb)
      have RV := Lib.hid (RV.out.below hb)
      have MQ := Lib.hid hle
      have FQ := Lib.hid (fresh_le hfr hg1)
      have RQ := Lib.hid hes
      clear hes hle hfr hg1
      go_wp2_with fail
      refine hK.out _ _ (⟨hS.1.trans (hb.mono hS.1.size), (hb.block _ (blk_lt hS.2.1)).trans hS.2.1, (hb.block _ (blk_lt hS.2.2)).trans hS.2.2⟩) (fun hHeld => ?_)
      clear hK K
      try simp only [Act.put, List.setIfInBounds_toArray, List.set_cons_succ, List.set_cons_zero]
      clear hS
      have hS := hHeld
      clear hHeld
      clear hb
      refine' wpAnyH_take (i := 20) ?h1x20jx18x12x6x7x13x19 ?hsx20jx18x12x6x7x13x19 ?hfx20jx18x12x6x7x13x19 ?hrx20jx18x12x6x7x13x19 ?hQx20jx18x12x6x7x13x19 (Or.inl ⟨?hwx20jx18x12x6x7x13x19, ?hyx20jx18x12x6x7x13x19⟩) hS ?restx20jx18x12x6x7x13x19
      case h1x20jx18x12x6x7x13x19 => (simp only [List.getElem?_toArray, List.getElem?_cons_succ, List.getElem?_cons_zero]; rfl)
      case hsx20jx18x12x6x7x13x19 => kernel_rfl
      case hfx20jx18x12x6x7x13x19 => kernel_rfl
      case hrx20jx18x12x6x7x13x19 => kernel_rfl
      case hQx20jx18x12x6x7x13x19 => exact fun _ _ _ h => h
      case hwx20jx18x12x6x7x13x19 => rfl
      case hyx20jx18x12x6x7x13x19 =>
        intro W hW
        have bb := b26f lf yK yV yQ kK kV kQ dK dV dQ W
        go_simp
        try with_reducible rfl
      simp only [Act.put, List.setIfInBounds_toArray, List.set_cons_succ, List.set_cons_zero]
      refine wpAnyH_ready (rs := [21]) (by kernel_rfl) (by simp) ?_
      refine' (AllReadyH.cons ?hoc21jx18x12x6x7x13x19 (fun K hK => ?stc21jx18x12x6x7x13x19) AllReadyH.nil)
      case hoc21jx18x12x6x7x13x19 => (simp only [List.getElem?_toArray, List.getElem?_cons_succ, List.getElem?_cons_zero]; rfl)
      refine step_store_row rfl 26 (.tmp 4) (.tmp 34) rfl (w.heap.size + 2) #[.bool lf, .slice yK kK dK, .slice yV kV dV, .slice yQ kQ dQ] rfl rfl 26 _ G2.out (size26' _ _ _ _) (by rw [Z4.out]; rfl) (by simp [Value.oneCell']) ?_
      have q2 := setRow_heap Wjx18x12x6x7x13x19 (w.heap.size + 2) _ #[.bool lf, .slice yK kK dK, .slice yV kV dV, .slice yQ kQ dQ] 26 _ G2.out
      have rK := RK.out.setRow (cs := #[.bool lf, .slice yK kK dK, .slice yV kV dV, .slice yQ kQ dQ]) FK.out (Nat.lt_succ_self _)
      have rV := RV.out.setRow (cs := #[.bool lf, .slice yK kK dK, .slice yV kV dV, .slice yQ kQ dQ]) FV.out (Nat.lt_succ_self _)
      have rQ := RQ.out.setRow (cs := #[.bool lf, .slice yK kK dK, .slice yV kV dV, .slice yQ kQ dQ]) FQ.out (Nat.lt_succ_self _)
      have hS2 := hS.1.trans (below_row (B := w.heap.size) Wjx18x12x6x7x13x19 #[.bool lf, .slice yK kK dK, .slice yV kV dV, .slice yQ kQ dQ] (show w.heap.size ≤ w.heap.size + 2 by omega))
      have hS3 := (setRow_other Wjx18x12x6x7x13x19 (w.heap.size + 2) w.heap.size #[.bool lf, .slice yK kK dK, .slice yV kV dV, .slice yQ kQ dQ] (by omega)).trans hS.2.1
      have hS4 := (setRow_other Wjx18x12x6x7x13x19 (w.heap.size + 2) (w.heap.size + 1) #[.bool lf, .slice yK kK dK, .slice yV kV dV, .slice yQ kQ dQ] (by omega)).trans hS.2.2
      refine hK.out _ _ ⟨hS2, hS3, hS4⟩ (fun hHeld => ?_)
      clear hK K hHeld hS hS3 hS4
      simp only [Act.put]
      generalize Wjx18x12x6x7x13x19.setRow (w.heap.size + 2) #[.bool lf, .slice yK kK dK, .slice yV kV dV, .slice yQ kQ dQ] = wf at *
      refine wpAnyH_done (by kernel_rfl) ?_ _
      try go_wp2_with fail
      exact bodyPost_ret (v := .agg #[.bool lf, .slice yK kK dK, .slice yV kV dV, .slice yQ kQ dQ]) (results_cell_row Try.results21 _ _ (w.heap.size + 2) 26 _ (0, 0) _ rfl q2 Try.underlying26 rfl (size26' _ _ _ _)) rfl
        ⟨_, rfl, FIN.out _ _ _ _ rK rV rQ, ⟨lf, yK, kK, dK, yV, kV, dV, yQ, kQ, dQ, rfl, ⟨MK.out, MV.out, MQ.out⟩, fresh_le FK.out (by omega), fresh_le FV.out (by omega), fresh_le FQ.out (by omega)⟩, hS2⟩
end Go.Proofs.Ytnifaldgofmciaa
