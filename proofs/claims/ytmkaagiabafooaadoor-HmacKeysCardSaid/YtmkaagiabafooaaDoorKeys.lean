/-
  For all keys, texts and numbers the law HmacKeys of package casematelaw03 returns true, and what came in reads afterwards as before: a key is as it is with bytes 0 behind it, up to 64; a longer one is as its sum. Condition: the two tables of package sha read, when the call begins, as their declarations lay them (the card ties that to the program's text).
-/
import Derived.Test.YtmkaagiabafooaaDoorAlivc
import Derived.Test.YtmkaagiabafooaaDoorLaid
import Derived.Deep.RegionHeld
namespace Go.Proofs.YtmkaagiabafooaaDoor.hmacKeys
open Go.ChangeShapes Go.WideShapes Go.ChangeAt Go.RowKit
theorem mac_long (k b : List Int) (hk : Byt k) (h : 64 < k.length) : mac (sha k) b = mac k b := by
  have e : fill (sha k) = fill k := by
    have e1 : short (sha k) = sha k := by unfold short; rw [if_neg (by rw [sha_len k hk]; omega)]
    have e2 : short k = sha k := by unfold short; rw [if_pos h]
    unfold fill; rw [e1, e2]
  unfold mac pad; rw [e]
theorem mac_more (k b : List Int) (i : Nat) (h : k.length + i ≤ 64) : mac (k ++ List.replicate i 0) b = mac k b := by
  have e : fill (k ++ List.replicate i 0) = fill k := by
    have e1 : short (k ++ List.replicate i 0) = k ++ List.replicate i 0 := by unfold short; rw [if_neg (by rw [List.length_append, List.length_replicate]; omega)]
    have e2 : short k = k := by unfold short; rw [if_neg (by omega)]
    unfold fill
    rw [e1, e2, List.append_assoc, List.length_append, List.length_replicate, List.replicate_append_replicate]
    congr 2
    omega
  unfold mac pad; rw [e]
theorem own_empty (w : World) (base : Nat) (h : base ≤ w.heap.size) : Own (w.alloc (.cells #[] 5)) base (.slice (some ⟨w.heap.size, 0, none⟩) 0 0) [] :=
  ⟨fun _ h => by simp at h, rfl, .inr ⟨w.heap.size, 0, #[], rfl, h, heap_alloc_new w _, Nat.le_refl _, by simp [maxLen], rfl, rfl⟩⟩
set_option maxRecDepth 100000 in
set_option maxHeartbeats 4000000 in
theorem walk_great (va vb : Value) (k b : List Int) (n : Int) (w : World) (hG : Glob w) (ha : Sees w va k) (hb : Sees w vb b) (h : 300 < k.length ∨ 2000 < b.length ∨ n < 0 ∨ 64 < n) :
    Calls Tryd.prog 9 #[va, vb, .int .i64 n] w fun e w' => e = .returned (.bool true) ∧ Below w.heap.size w w' := by
  obtain ⟨x1, c1, rfl, l1⟩ := ha.form
  obtain ⟨x2, c2, rfl, l2⟩ := hb.form
  have AL := Lib.hid (alivc w hG)
  clear ha hb hG
  by_cases t0 : (300 : Int) < k.length
  · skip
    go_enter Tryd.func9, Tryd.ntmps9
    go_wp2_with fail
    refine AL.out.mono ?_
    rintro e w1 ⟨rfl, hb⟩
    have HB := Lib.hid hb
    clear hb
    go_wp2_with fail
    go_ret
    exact ⟨rfl, HB.out⟩
  · skip
    by_cases t1 : (2000 : Int) < b.length
    · skip
      go_enter Tryd.func9, Tryd.ntmps9
      go_wp2_with fail
      refine AL.out.mono ?_
      rintro e w1 ⟨rfl, hb⟩
      have HB := Lib.hid hb
      clear hb
      go_wp2_with fail
      go_ret
      exact ⟨rfl, HB.out⟩
    · skip
      by_cases t2 : n < 0
      · skip
        go_enter Tryd.func9, Tryd.ntmps9
        go_wp2_with fail
        refine AL.out.mono ?_
        rintro e w1 ⟨rfl, hb⟩
        have HB := Lib.hid hb
        clear hb
        go_wp2_with fail
        go_ret
        exact ⟨rfl, HB.out⟩
      · skip
        have t3 : 64 < n := by omega
        go_enter Tryd.func9, Tryd.ntmps9
        go_wp2_with fail
        refine AL.out.mono ?_
        rintro e w1 ⟨rfl, hb⟩
        have HB := Lib.hid hb
        clear hb
        go_wp2_with fail
        go_ret
        exact ⟨rfl, HB.out⟩
set_option maxRecDepth 100000 in
set_option maxHeartbeats 8000000 in
theorem walk_long (va vb : Value) (k b : List Int) (n : Nat) (w : World) (hG : Glob w) (ha : Sees w va k) (hb : Sees w vb b) (h1 : k.length ≤ 300) (h2 : b.length ≤ 2000) (hn : n ≤ 64) (h64 : 64 < k.length) :
    Calls Tryd.prog 9 #[va, vb, .int .i64 n] w fun e w' => e = .returned (.bool true) ∧ Below w.heap.size w w' := by
  obtain ⟨x1, c1, rfl, l1⟩ := id ha.form
  obtain ⟨x2, c2, rfl, l2⟩ := id hb.form
  have z27 := zv27
  obtain ⟨Z27, hZ27⟩ : ∃ Z, Z = bcells (List.replicate 32 0) := ⟨_, rfl⟩
  rw [← hZ27] at z27
  have h2w : 2 ≤ w.heap.size := by have := hG.lt; omega
  have MK := Lib.hid (macc _ _ _ _ w ha hb (by omega) (by omega) hG)
  have lS := sha_len k ha.1
  have bS := sha_byt k
  have SM : Hid (∀ W v, Glob W → Sees W v k → Calls Tryd.prog 14 #[v] W fun e w' => e = .returned (.agg (bcells (sha k))) ∧ Below W.heap.size W w') := fun W v hg hv => sum1 v _ W hv (by omega) hg
  have M2 : Hid (∀ W v, Glob W → Sees W v (sha k) → Sees W (.slice x2 b.length c2) b → Calls Tryd.prog 22 #[v, .slice x2 b.length c2] W fun e w' => e = .returned (.agg (bcells (mac k b))) ∧ Below W.heap.size W w') := fun W v hg h3 h4 => by
    have h := macc v _ _ _ W h3 h4 (by omega) (by omega) hg
    rw [mac_long k b ha.1 h64] at h; exact h
  generalize sha k = S at SM M2 lS bS
  have lA := mac_len k b ha.1
  have bA := mac_byt k b
  generalize mac k b = A at MK M2 lA bA
  have EQ := Lib.hid (eq27_same A bA lA)
  have IA := Lib.hid (show (Tryd.prog.info? 27).map (·.size) = some (bcells A).size by rw [i27, bsize, lA])
  have ZA := Lib.hid (show Z27.size = (bcells A).size by rw [hZ27, bsize, bsize, lA, List.length_replicate])
  have OA := Lib.hid (bone A)
  have LL := Lib.hid (len27' A lA)
  have HA := Lib.hid ha
  have HBB := Lib.hid hb
  have HGL := Lib.hid hG
  have H2W := Lib.hid h2w
  have t1 : ¬ (300 : Int) < k.length := by omega
  have t2 : ¬ (2000 : Int) < b.length := by omega
  have IS := Lib.hid (show (Tryd.prog.info? 27).map (·.size) = some (bcells S).size by rw [i27, bsize, lS])
  have ZS := Lib.hid (show Z27.size = (bcells S).size by rw [hZ27, bsize, bsize, lS, List.length_replicate])
  have OS := Lib.hid (bone S)
  have LS := Lib.hid lS
  have BS := Lib.hid bS
  have t3 : ¬ ((n : Int) < 0) := by omega
  have t4 : ¬ (64 < (n : Int)) := by omega
  have t5 : (64 : Int) < k.length := by omega
  have aa := arr32_all
  clear ha hb hG h2w h1 h2 hZ27 lA bA lS bS hn h64
  go_enter Tryd.func9, Tryd.ntmps9
  go_wp2_with fail
  refine MK.out.mono ?_
  rintro e w1 ⟨rfl, hb⟩
  have rA : Row27 ((w1.alloc (.cells Z27 27)).setRow w1.heap.size (bcells A)) w1.heap.size A := setRow_heap _ _ _ _ _ _ (heap_alloc_new w1 _)
  have b3 : Below w.heap.size w ((w1.alloc (.cells Z27 27)).setRow w1.heap.size (bcells A)) := (hb.alloc hb.size _).trans (below_row _ _ hb.size)
  clear hb
  go_wp2_with (refine wpList_store_row rfl 27 (.tmp 7) (.tmp 30) rfl w1.heap.size (bcells A) rfl rfl 27 Z27 (heap_alloc_new w1 _) IA.out ZA.out OA.out ?_; generalize ((w1.alloc (.cells Z27 27)).setRow w1.heap.size (bcells A)) = w3 at rA b3 ⊢)
  have RA := Lib.hid rA
  have B3 := Lib.hid b3
  clear rA b3
  refine (SM.out w3 _ (HGL.out.below B3.out H2W.out) (HA.out.below B3.out)).mono ?_
  rintro e w4 ⟨rfl, hb⟩
  have rS : Row27 ((w4.alloc (.cells Z27 27)).setRow w4.heap.size (bcells S)) w4.heap.size S := setRow_heap _ _ _ _ _ _ (heap_alloc_new w4 _)
  have q5 : Below w3.heap.size w3 ((w4.alloc (.cells Z27 27)).setRow w4.heap.size (bcells S)) := (hb.alloc hb.size _).trans (below_row _ _ hb.size)
  have R5 := Lib.hid (RA.out.below q5)
  have RS := Lib.hid rS
  have B5 : Hid (Below w.heap.size w ((w4.alloc (.cells Z27 27)).setRow w4.heap.size (bcells S))) := B3.out.trans (q5.mono B3.out.size)
  clear hb rS q5 RA B3
  go_wp2_with (refine wpList_store_row rfl 27 (.tmp 8) (.tmp 35) rfl w4.heap.size (bcells S) rfl rfl 27 Z27 (heap_alloc_new w4 _) IS.out ZS.out OS.out ?_)
  generalize ((w4.alloc (.cells Z27 27)).setRow w4.heap.size (bcells S)) = w5 at R5 RS B5 ⊢
  have eq := EQ.out
  refine wp_region_held_drew (S := fun W => Below w5.heap.size w5 W) (by kernel_rfl) (Below.refl _ _).drew (fun hS => ?_)
  refine wpAnyH_ready (rs := [0]) (by kernel_rfl) (by simp) ?_
  refine' AllReadyH.cons ?hoc0p (fun K hK => ?stc0p) AllReadyH.nil
  case hoc0p => (simp only [List.getElem?_toArray, List.getElem?_cons_zero]; rfl)
  go_simp
  refine (alivc _ (HGL.out.below (B5.out.trans (hS.mono B5.out.size)) H2W.out)).mono ?_
  rintro e va ⟨rfl, hb⟩
  go_wp2_with fail
  refine hK.out _ _ (hS.trans (hb.mono hS.size)) (fun hHeld => ?_)
  clear hK K
  try simp only [Act.put, List.setIfInBounds_toArray, List.set_cons_succ, List.set_cons_zero]
  clear hS hb
  have hS := hHeld
  clear hHeld
  refine' wpAnyH_take (i := 1) ?h1x1p ?hsx1p ?hfx1p ?hrx1p ?hQx1p (Or.inl ⟨?hwx1p, ?hyx1p⟩) hS ?restx1p
  case h1x1p => (simp only [List.getElem?_toArray, List.getElem?_cons_succ, List.getElem?_cons_zero]; rfl)
  case hsx1p => kernel_rfl
  case hfx1p => kernel_rfl
  case hrx1p => kernel_rfl
  case hQx1p => exact fun _ _ _ h => h
  case hwx1p => rfl
  case hyx1p =>
    intro W hW
    go_simp
    try with_reducible rfl
  simp only [Act.put, List.setIfInBounds_toArray, List.set_cons_succ, List.set_cons_zero]
  refine' wpAnyH_take (i := 2) ?h1x2p ?hsx2p ?hfx2p ?hrx2p ?hQx2p (yieldsIf_load_mid ?hwx2p 27 (.tmp 7) ?hopx2p w1.heap.size 0 rfl (bcells A).toList _ (fun W hW => (R5.out.below hW).range) Tryd.underlying27 rfl ?hix2p) hS ?restx2p
  case h1x2p => (simp only [List.getElem?_toArray, List.getElem?_cons_succ, List.getElem?_cons_zero]; rfl)
  case hopx2p => rfl
  case hsx2p => kernel_rfl
  case hfx2p => kernel_rfl
  case hrx2p => kernel_rfl
  case hQx2p => exact fun _ _ _ h => h
  case hwx2p => rfl
  case hix2p => exact LL.out
  simp only [Act.put, List.setIfInBounds_toArray, List.set_cons_succ, List.set_cons_zero]
  refine' wpAnyH_take (i := 3) ?h1x3p ?hsx3p ?hfx3p ?hrx3p ?hQx3p (Or.inl ⟨?hwx3p, ?hyx3p⟩) hS ?restx3p
  case h1x3p => (simp only [List.getElem?_toArray, List.getElem?_cons_succ, List.getElem?_cons_zero]; rfl)
  case hsx3p => kernel_rfl
  case hfx3p => kernel_rfl
  case hrx3p => kernel_rfl
  case hQx3p => exact fun _ _ _ h => h
  case hwx3p => rfl
  case hyx3p =>
    intro W hW
    go_simp
    try with_reducible rfl
  simp only [Act.put, List.setIfInBounds_toArray, List.set_cons_succ, List.set_cons_zero]
  refine' wpAnyH_take (i := 4) ?h1x4p ?hsx4p ?hfx4p ?hrx4p ?hQx4p (Or.inl ⟨?hwx4p, ?hyx4p⟩) hS ?restx4p
  case h1x4p => (simp only [List.getElem?_toArray, List.getElem?_cons_succ, List.getElem?_cons_zero]; rfl)
  case hsx4p => kernel_rfl
  case hfx4p => kernel_rfl
  case hrx4p => kernel_rfl
  case hQx4p => exact fun _ _ _ h => h
  case hwx4p => rfl
  case hyx4p =>
    intro W hW
    go_simp
    try with_reducible rfl
  simp only [Act.put, List.setIfInBounds_toArray, List.set_cons_succ, List.set_cons_zero]
  refine wpAnyH_ready (rs := [5]) (by kernel_rfl) (by simp) ?_
  refine' AllReadyH.cons ?hoc5p (fun K hK => ?stc5p) AllReadyH.nil
  case hoc5p => (simp only [List.getElem?_toArray, List.getElem?_cons_succ, List.getElem?_cons_zero]; rfl)
  go_simp
  refine (M2.out _ _ (HGL.out.below (B5.out.trans (hS.mono B5.out.size)) H2W.out) ((RS.out.below hS).sees LS.out BS.out) (HBB.out.below (B5.out.trans (hS.mono B5.out.size)))).mono ?_
  rintro e vb ⟨rfl, hb⟩
  go_wp2_with fail
  refine hK.out _ _ (hS.trans (hb.mono hS.size)) (fun hHeld => ?_)
  clear hK K
  try simp only [Act.put, List.setIfInBounds_toArray, List.set_cons_succ, List.set_cons_zero]
  clear hS hb
  have hS := hHeld
  clear hHeld
  refine' wpAnyH_take (i := 6) ?h1x6p ?hsx6p ?hfx6p ?hrx6p ?hQx6p (Or.inl ⟨?hwx6p, ?hyx6p⟩) hS ?restx6p
  case h1x6p => (simp only [List.getElem?_toArray, List.getElem?_cons_succ, List.getElem?_cons_zero]; rfl)
  case hsx6p => kernel_rfl
  case hfx6p => kernel_rfl
  case hrx6p => kernel_rfl
  case hQx6p => exact fun _ _ _ h => h
  case hwx6p => rfl
  case hyx6p =>
    intro W hW
    go_simp
    try with_reducible rfl
  simp only [Act.put, List.setIfInBounds_toArray, List.set_cons_succ, List.set_cons_zero]
  refine' wpAnyH_take (i := 7) ?h1x7p ?hsx7p ?hfx7p ?hrx7p ?hQx7p (Or.inl ⟨?hwx7p, ?hyx7p⟩) hS ?restx7p
  case h1x7p => (simp only [List.getElem?_toArray, List.getElem?_cons_succ, List.getElem?_cons_zero]; rfl)
  case hsx7p => kernel_rfl
  case hfx7p => kernel_rfl
  case hrx7p => kernel_rfl
  case hQx7p => exact fun _ _ _ h => h
  case hwx7p => rfl
  case hyx7p =>
    intro W hW
    go_simp
    try with_reducible rfl
  simp only [Act.put, List.setIfInBounds_toArray, List.set_cons_succ, List.set_cons_zero]
  refine' wpAnyH_take (i := 8) ?h1x8p ?hsx8p ?hfx8p ?hrx8p ?hQx8p (Or.inl ⟨?hwx8p, ?hyx8p⟩) hS ?restx8p
  case h1x8p => (simp only [List.getElem?_toArray, List.getElem?_cons_succ, List.getElem?_cons_zero]; rfl)
  case hsx8p => kernel_rfl
  case hfx8p => kernel_rfl
  case hrx8p => kernel_rfl
  case hQx8p => exact fun _ _ _ h => h
  case hwx8p => rfl
  case hyx8p =>
    intro W hW
    go_simp
    try with_reducible rfl
  simp only [Act.put, List.setIfInBounds_toArray, List.set_cons_succ, List.set_cons_zero]
  refine wpAnyH_done (by kernel_rfl) ?_ _
  go_wp2_with fail
  go_ret
  exact ⟨rfl, B5.out.trans (hS.mono B5.out.size)⟩
set_option maxRecDepth 100000 in
set_option maxHeartbeats 8000000 in
theorem walk_short (va vb : Value) (k b : List Int) (n : Nat) (w : World) (hG : Glob w) (ha : Sees w va k) (hb : Sees w vb b) (h2 : b.length ≤ 2000) (hn : n ≤ 64) (h64 : k.length ≤ 64) :
    Calls Tryd.prog 9 #[va, vb, .int .i64 n] w fun e w' => e = .returned (.bool true) ∧ Below w.heap.size w w' := by
  obtain ⟨x1, c1, rfl, l1⟩ := id ha.form
  obtain ⟨x2, c2, rfl, l2⟩ := id hb.form
  have z27 := zv27
  obtain ⟨Z27, hZ27⟩ : ∃ Z, Z = bcells (List.replicate 32 0) := ⟨_, rfl⟩
  rw [← hZ27] at z27
  have h2w : 2 ≤ w.heap.size := by have := hG.lt; omega
  have MK := Lib.hid (macc _ _ _ _ w ha hb (by omega) (by omega) hG)
  have M2 : Hid (∀ W v i, k.length + i ≤ 64 → Glob W → Sees W v (k ++ List.replicate i 0) → Sees W (.slice x2 b.length c2) b → Calls Tryd.prog 22 #[v, .slice x2 b.length c2] W fun e w' => e = .returned (.agg (bcells (mac k b))) ∧ Below W.heap.size W w') := fun W v i hi hg h3 h4 => by
    have h := macc v _ _ _ W h3 h4 (by rw [List.length_append, List.length_replicate]; omega) (by omega) hg
    rw [mac_more k b i hi] at h; exact h
  have lA := mac_len k b ha.1
  have bA := mac_byt k b
  generalize mac k b = A at MK M2 lA bA
  have EQ := Lib.hid (eq27_same A bA lA)
  have IA := Lib.hid (show (Tryd.prog.info? 27).map (·.size) = some (bcells A).size by rw [i27, bsize, lA])
  have ZA := Lib.hid (show Z27.size = (bcells A).size by rw [hZ27, bsize, bsize, lA, List.length_replicate])
  have OA := Lib.hid (bone A)
  have LL := Lib.hid (len27' A lA)
  have HA := Lib.hid ha
  have HBB := Lib.hid hb
  have HGL := Lib.hid hG
  have H2W := Lib.hid h2w
  have t1 : ¬ (300 : Int) < k.length := by omega
  have t2 : ¬ (2000 : Int) < b.length := by omega
  have t3 : ¬ ((n : Int) < 0) := by omega
  have t4 : ¬ (64 < (n : Int)) := by omega
  have t5 : ¬ (64 : Int) < k.length := by omega
  have HN := Lib.hid hn
  have H64 := Lib.hid h64
  clear ha hb hG h2w h2 hZ27 lA bA hn h64
  go_enter Tryd.func9, Tryd.ntmps9
  go_wp2_with fail
  refine MK.out.mono ?_
  rintro e w1 ⟨rfl, hb⟩
  have rA : Row27 ((w1.alloc (.cells Z27 27)).setRow w1.heap.size (bcells A)) w1.heap.size A := setRow_heap _ _ _ _ _ _ (heap_alloc_new w1 _)
  have b3 : Below w.heap.size w ((w1.alloc (.cells Z27 27)).setRow w1.heap.size (bcells A)) := (hb.alloc hb.size _).trans (below_row _ _ hb.size)
  have hB0 : Below ((w1.alloc (.cells Z27 27)).setRow w1.heap.size (bcells A)).heap.size ((w1.alloc (.cells Z27 27)).setRow w1.heap.size (bcells A)) (((w1.alloc (.cells Z27 27)).setRow w1.heap.size (bcells A)).alloc (.cells #[] 5)) := (Below.refl _ _).alloc (Nat.le_refl _) _
  obtain ⟨p1, k1, w4, r1, o1, g1, b1⟩ := app (own_empty ((w1.alloc (.cells Z27 27)).setRow w1.heap.size (bcells A)) _ (Nat.le_refl _)) ((HA.out.below b3).below hB0) (by have := H64.out; simp; omega) (by simp)
  have b4 := hB0.trans b1
  simp only [List.length_nil, Nat.zero_add, List.nil_append] at r1 o1
  have R1 := Lib.hid r1
  have O1 := Lib.hid o1
  have B4 := Lib.hid b4
  clear hb r1 o1 g1 b1 hB0 b4
  go_wp2_with (first
    | (refine wpList_store_row rfl 27 (.tmp 7) (.tmp 30) rfl w1.heap.size (bcells A) rfl rfl 27 Z27 (heap_alloc_new w1 _) IA.out ZA.out OA.out ?_
       generalize ((w1.alloc (.cells Z27 27)).setRow w1.heap.size (bcells A)) = w3 at rA b3 R1 O1 B4 ⊢)
    | (at_builtin; refine wpList_app rfl (.tmp 44) (.tmp 45) rfl rfl rfl rfl R1.out ?_))
  have RA := Lib.hid rA
  have B3 := Lib.hid b3
  clear rA b3 R1
  go_loopg [9, 10] n (fun r vo vi wr => ∃ (i : Nat) (q : Option Addr) (cap : Nat), r + i = n ∧ k.length + i ≤ 64 ∧ vi = .int .i64 i ∧ vo = .slice q (k.length + i) cap ∧ Own wr w3.heap.size (.slice q (k.length + i) cap) (k ++ List.replicate i 0) ∧ Below w3.heap.size w3 wr)
  case atStart => exact ⟨0, p1, k1, by omega, by have := H64.out; omega, rfl, rfl, by simpa using O1.out, B4.out⟩
  case round =>
    obtain ⟨i, q, cap, hk1, hk2, rfl, rfl, hO, hB⟩ := hrel
    have hlk : (k ++ List.replicate i 0).length = k.length + i := by simp
    have BW : Hid (Below w.heap.size w wr) := B3.out.trans (hB.mono B3.out.size)
    have RW := Lib.hid (RA.out.below hB)
    have HO := Lib.hid hO
    have HB := Lib.hid hB
    have HI := Lib.hid (And.intro hk1 hk2)
    by_cases hc1 : i < n
    · have c1 : (i : Int) < n := by omega
      by_cases hc2 : k.length + i < 64
      · have c2 : (k.length : Int) + i < 64 := by omega
        have hq : Below wr.heap.size wr (wr.alloc (.cells #[.int .u8 0] 5)) := (Below.refl _ _).alloc (Nat.le_refl _) _
        obtain ⟨q2, cap2, w6, r6, o6, _, b6⟩ := app (hO.below hq) (five_sees 0 wr (by omega)) (by rw [hlk]; simp; omega) (by have := hB.size; have := hq.size; omega)
        rw [hlk] at r6 o6
        simp only [List.length_singleton, Nat.add_assoc] at r6 o6
        have R6 := Lib.hid r6
        have O6 : Hid (Own w6 w3.heap.size (.slice q2 (k.length + (i + 1)) cap2) (k ++ List.replicate (i + 1) 0)) := by
          show Own _ _ _ _
          rw [List.append_assoc] at o6
          rw [List.replicate_succ']; exact o6
        have B6 : Hid (Below w3.heap.size w3 w6) := (hB.trans (hq.mono hB.size)).trans b6
        clear hk1 hk2 hO hB hlk hq r6 o6 b6 hc1 hc2
        go_wp2_with (at_builtin; refine wpList_app rfl (.tmp 57) (.tmp 58) rfl rfl rfl rfl R6.out ?_)
        go_roundg (n - (i + 1))
        case rel =>
          have h1 := HI.out
          exact ⟨i + 1, q2, cap2, by omega, by omega, by go_num, rfl, O6.out, B6.out⟩
        case measure =>
          have h1 := HI.out
          omega
      · have c2 : ¬ ((k.length : Int) + i < 64) := by omega
        clear hk1 hk2 hO hB hlk hc1 hc2
        go_wp2_with fail
        have eq := EQ.out
        refine wp_region_held_drew (S := fun W => Below wr.heap.size wr W) (by kernel_rfl) (Below.refl _ _).drew (fun hS => ?_)
        refine wpAnyH_ready (rs := [0]) (by kernel_rfl) (by simp) ?_
        refine' AllReadyH.cons ?hoc0q (fun K hK => ?stc0q) AllReadyH.nil
        case hoc0q => (simp only [List.getElem?_toArray, List.getElem?_cons_zero]; rfl)
        go_simp
        refine (alivc _ (HGL.out.below (BW.out.trans (hS.mono BW.out.size)) H2W.out)).mono ?_
        rintro e va ⟨rfl, hb⟩
        go_wp2_with fail
        refine hK.out _ _ (hS.trans (hb.mono hS.size)) (fun hHeld => ?_)
        clear hK K
        try simp only [Act.put, List.setIfInBounds_toArray, List.set_cons_succ, List.set_cons_zero]
        clear hS hb
        have hS := hHeld
        clear hHeld
        refine' wpAnyH_take (i := 1) ?h1x1q ?hsx1q ?hfx1q ?hrx1q ?hQx1q (Or.inl ⟨?hwx1q, ?hyx1q⟩) hS ?restx1q
        case h1x1q => (simp only [List.getElem?_toArray, List.getElem?_cons_succ, List.getElem?_cons_zero]; rfl)
        case hsx1q => kernel_rfl
        case hfx1q => kernel_rfl
        case hrx1q => kernel_rfl
        case hQx1q => exact fun _ _ _ h => h
        case hwx1q => rfl
        case hyx1q =>
          intro W hW
          go_simp
          try with_reducible rfl
        simp only [Act.put, List.setIfInBounds_toArray, List.set_cons_succ, List.set_cons_zero]
        refine' wpAnyH_take (i := 2) ?h1x2q ?hsx2q ?hfx2q ?hrx2q ?hQx2q (yieldsIf_load_mid ?hwx2q 27 (.tmp 7) ?hopx2q w1.heap.size 0 rfl (bcells A).toList _ (fun W hW => (RW.out.below hW).range) Tryd.underlying27 rfl ?hix2q) hS ?restx2q
        case h1x2q => (simp only [List.getElem?_toArray, List.getElem?_cons_succ, List.getElem?_cons_zero]; rfl)
        case hopx2q => rfl
        case hsx2q => kernel_rfl
        case hfx2q => kernel_rfl
        case hrx2q => kernel_rfl
        case hQx2q => exact fun _ _ _ h => h
        case hwx2q => rfl
        case hix2q => exact LL.out
        simp only [Act.put, List.setIfInBounds_toArray, List.set_cons_succ, List.set_cons_zero]
        refine' wpAnyH_take (i := 3) ?h1x3q ?hsx3q ?hfx3q ?hrx3q ?hQx3q (Or.inl ⟨?hwx3q, ?hyx3q⟩) hS ?restx3q
        case h1x3q => (simp only [List.getElem?_toArray, List.getElem?_cons_succ, List.getElem?_cons_zero]; rfl)
        case hsx3q => kernel_rfl
        case hfx3q => kernel_rfl
        case hrx3q => kernel_rfl
        case hQx3q => exact fun _ _ _ h => h
        case hwx3q => rfl
        case hyx3q =>
          intro W hW
          go_simp
          try with_reducible rfl
        simp only [Act.put, List.setIfInBounds_toArray, List.set_cons_succ, List.set_cons_zero]
        refine' wpAnyH_take (i := 4) ?h1x4q ?hsx4q ?hfx4q ?hrx4q ?hQx4q (Or.inl ⟨?hwx4q, ?hyx4q⟩) hS ?restx4q
        case h1x4q => (simp only [List.getElem?_toArray, List.getElem?_cons_succ, List.getElem?_cons_zero]; rfl)
        case hsx4q => kernel_rfl
        case hfx4q => kernel_rfl
        case hrx4q => kernel_rfl
        case hQx4q => exact fun _ _ _ h => h
        case hwx4q => rfl
        case hyx4q =>
          intro W hW
          go_simp
          try with_reducible rfl
        simp only [Act.put, List.setIfInBounds_toArray, List.set_cons_succ, List.set_cons_zero]
        refine wpAnyH_ready (rs := [5]) (by kernel_rfl) (by simp) ?_
        refine' AllReadyH.cons ?hoc5q (fun K hK => ?stc5q) AllReadyH.nil
        case hoc5q => (simp only [List.getElem?_toArray, List.getElem?_cons_succ, List.getElem?_cons_zero]; rfl)
        go_simp
        refine (M2.out _ _ i HI.out.2 (HGL.out.below (BW.out.trans (hS.mono BW.out.size)) H2W.out) (HO.out.below hS).sees (HBB.out.below (BW.out.trans (hS.mono BW.out.size)))).mono ?_
        rintro e vb ⟨rfl, hb⟩
        go_wp2_with fail
        refine hK.out _ _ (hS.trans (hb.mono hS.size)) (fun hHeld => ?_)
        clear hK K
        try simp only [Act.put, List.setIfInBounds_toArray, List.set_cons_succ, List.set_cons_zero]
        clear hS hb
        have hS := hHeld
        clear hHeld
        refine' wpAnyH_take (i := 6) ?h1x6q ?hsx6q ?hfx6q ?hrx6q ?hQx6q (Or.inl ⟨?hwx6q, ?hyx6q⟩) hS ?restx6q
        case h1x6q => (simp only [List.getElem?_toArray, List.getElem?_cons_succ, List.getElem?_cons_zero]; rfl)
        case hsx6q => kernel_rfl
        case hfx6q => kernel_rfl
        case hrx6q => kernel_rfl
        case hQx6q => exact fun _ _ _ h => h
        case hwx6q => rfl
        case hyx6q =>
          intro W hW
          go_simp
          try with_reducible rfl
        simp only [Act.put, List.setIfInBounds_toArray, List.set_cons_succ, List.set_cons_zero]
        refine' wpAnyH_take (i := 7) ?h1x7q ?hsx7q ?hfx7q ?hrx7q ?hQx7q (Or.inl ⟨?hwx7q, ?hyx7q⟩) hS ?restx7q
        case h1x7q => (simp only [List.getElem?_toArray, List.getElem?_cons_succ, List.getElem?_cons_zero]; rfl)
        case hsx7q => kernel_rfl
        case hfx7q => kernel_rfl
        case hrx7q => kernel_rfl
        case hQx7q => exact fun _ _ _ h => h
        case hwx7q => rfl
        case hyx7q =>
          intro W hW
          go_simp
          try with_reducible rfl
        simp only [Act.put, List.setIfInBounds_toArray, List.set_cons_succ, List.set_cons_zero]
        refine' wpAnyH_take (i := 8) ?h1x8q ?hsx8q ?hfx8q ?hrx8q ?hQx8q (Or.inl ⟨?hwx8q, ?hyx8q⟩) hS ?restx8q
        case h1x8q => (simp only [List.getElem?_toArray, List.getElem?_cons_succ, List.getElem?_cons_zero]; rfl)
        case hsx8q => kernel_rfl
        case hfx8q => kernel_rfl
        case hrx8q => kernel_rfl
        case hQx8q => exact fun _ _ _ h => h
        case hwx8q => rfl
        case hyx8q =>
          intro W hW
          go_simp
          try with_reducible rfl
        simp only [Act.put, List.setIfInBounds_toArray, List.set_cons_succ, List.set_cons_zero]
        refine wpAnyH_done (by kernel_rfl) ?_ _
        go_wp2_with fail
        go_ret
        exact ⟨rfl, BW.out.trans (hS.mono BW.out.size)⟩
    · have c1 : ¬ (i : Int) < n := by omega
      clear hk1 hk2 hO hB hlk hc1
      go_wp2_with fail
      have eq := EQ.out
      refine wp_region_held_drew (S := fun W => Below wr.heap.size wr W) (by kernel_rfl) (Below.refl _ _).drew (fun hS => ?_)
      refine wpAnyH_ready (rs := [0]) (by kernel_rfl) (by simp) ?_
      refine' AllReadyH.cons ?hoc0r (fun K hK => ?stc0r) AllReadyH.nil
      case hoc0r => (simp only [List.getElem?_toArray, List.getElem?_cons_zero]; rfl)
      go_simp
      refine (alivc _ (HGL.out.below (BW.out.trans (hS.mono BW.out.size)) H2W.out)).mono ?_
      rintro e va ⟨rfl, hb⟩
      go_wp2_with fail
      refine hK.out _ _ (hS.trans (hb.mono hS.size)) (fun hHeld => ?_)
      clear hK K
      try simp only [Act.put, List.setIfInBounds_toArray, List.set_cons_succ, List.set_cons_zero]
      clear hS hb
      have hS := hHeld
      clear hHeld
      refine' wpAnyH_take (i := 1) ?h1x1r ?hsx1r ?hfx1r ?hrx1r ?hQx1r (Or.inl ⟨?hwx1r, ?hyx1r⟩) hS ?restx1r
      case h1x1r => (simp only [List.getElem?_toArray, List.getElem?_cons_succ, List.getElem?_cons_zero]; rfl)
      case hsx1r => kernel_rfl
      case hfx1r => kernel_rfl
      case hrx1r => kernel_rfl
      case hQx1r => exact fun _ _ _ h => h
      case hwx1r => rfl
      case hyx1r =>
        intro W hW
        go_simp
        try with_reducible rfl
      simp only [Act.put, List.setIfInBounds_toArray, List.set_cons_succ, List.set_cons_zero]
      refine' wpAnyH_take (i := 2) ?h1x2r ?hsx2r ?hfx2r ?hrx2r ?hQx2r (yieldsIf_load_mid ?hwx2r 27 (.tmp 7) ?hopx2r w1.heap.size 0 rfl (bcells A).toList _ (fun W hW => (RW.out.below hW).range) Tryd.underlying27 rfl ?hix2r) hS ?restx2r
      case h1x2r => (simp only [List.getElem?_toArray, List.getElem?_cons_succ, List.getElem?_cons_zero]; rfl)
      case hopx2r => rfl
      case hsx2r => kernel_rfl
      case hfx2r => kernel_rfl
      case hrx2r => kernel_rfl
      case hQx2r => exact fun _ _ _ h => h
      case hwx2r => rfl
      case hix2r => exact LL.out
      simp only [Act.put, List.setIfInBounds_toArray, List.set_cons_succ, List.set_cons_zero]
      refine' wpAnyH_take (i := 3) ?h1x3r ?hsx3r ?hfx3r ?hrx3r ?hQx3r (Or.inl ⟨?hwx3r, ?hyx3r⟩) hS ?restx3r
      case h1x3r => (simp only [List.getElem?_toArray, List.getElem?_cons_succ, List.getElem?_cons_zero]; rfl)
      case hsx3r => kernel_rfl
      case hfx3r => kernel_rfl
      case hrx3r => kernel_rfl
      case hQx3r => exact fun _ _ _ h => h
      case hwx3r => rfl
      case hyx3r =>
        intro W hW
        go_simp
        try with_reducible rfl
      simp only [Act.put, List.setIfInBounds_toArray, List.set_cons_succ, List.set_cons_zero]
      refine' wpAnyH_take (i := 4) ?h1x4r ?hsx4r ?hfx4r ?hrx4r ?hQx4r (Or.inl ⟨?hwx4r, ?hyx4r⟩) hS ?restx4r
      case h1x4r => (simp only [List.getElem?_toArray, List.getElem?_cons_succ, List.getElem?_cons_zero]; rfl)
      case hsx4r => kernel_rfl
      case hfx4r => kernel_rfl
      case hrx4r => kernel_rfl
      case hQx4r => exact fun _ _ _ h => h
      case hwx4r => rfl
      case hyx4r =>
        intro W hW
        go_simp
        try with_reducible rfl
      simp only [Act.put, List.setIfInBounds_toArray, List.set_cons_succ, List.set_cons_zero]
      refine wpAnyH_ready (rs := [5]) (by kernel_rfl) (by simp) ?_
      refine' AllReadyH.cons ?hoc5r (fun K hK => ?stc5r) AllReadyH.nil
      case hoc5r => (simp only [List.getElem?_toArray, List.getElem?_cons_succ, List.getElem?_cons_zero]; rfl)
      go_simp
      refine (M2.out _ _ i HI.out.2 (HGL.out.below (BW.out.trans (hS.mono BW.out.size)) H2W.out) (HO.out.below hS).sees (HBB.out.below (BW.out.trans (hS.mono BW.out.size)))).mono ?_
      rintro e vb ⟨rfl, hb⟩
      go_wp2_with fail
      refine hK.out _ _ (hS.trans (hb.mono hS.size)) (fun hHeld => ?_)
      clear hK K
      try simp only [Act.put, List.setIfInBounds_toArray, List.set_cons_succ, List.set_cons_zero]
      clear hS hb
      have hS := hHeld
      clear hHeld
      refine' wpAnyH_take (i := 6) ?h1x6r ?hsx6r ?hfx6r ?hrx6r ?hQx6r (Or.inl ⟨?hwx6r, ?hyx6r⟩) hS ?restx6r
      case h1x6r => (simp only [List.getElem?_toArray, List.getElem?_cons_succ, List.getElem?_cons_zero]; rfl)
      case hsx6r => kernel_rfl
      case hfx6r => kernel_rfl
      case hrx6r => kernel_rfl
      case hQx6r => exact fun _ _ _ h => h
      case hwx6r => rfl
      case hyx6r =>
        intro W hW
        go_simp
        try with_reducible rfl
      simp only [Act.put, List.setIfInBounds_toArray, List.set_cons_succ, List.set_cons_zero]
      refine' wpAnyH_take (i := 7) ?h1x7r ?hsx7r ?hfx7r ?hrx7r ?hQx7r (Or.inl ⟨?hwx7r, ?hyx7r⟩) hS ?restx7r
      case h1x7r => (simp only [List.getElem?_toArray, List.getElem?_cons_succ, List.getElem?_cons_zero]; rfl)
      case hsx7r => kernel_rfl
      case hfx7r => kernel_rfl
      case hrx7r => kernel_rfl
      case hQx7r => exact fun _ _ _ h => h
      case hwx7r => rfl
      case hyx7r =>
        intro W hW
        go_simp
        try with_reducible rfl
      simp only [Act.put, List.setIfInBounds_toArray, List.set_cons_succ, List.set_cons_zero]
      refine' wpAnyH_take (i := 8) ?h1x8r ?hsx8r ?hfx8r ?hrx8r ?hQx8r (Or.inl ⟨?hwx8r, ?hyx8r⟩) hS ?restx8r
      case h1x8r => (simp only [List.getElem?_toArray, List.getElem?_cons_succ, List.getElem?_cons_zero]; rfl)
      case hsx8r => kernel_rfl
      case hfx8r => kernel_rfl
      case hrx8r => kernel_rfl
      case hQx8r => exact fun _ _ _ h => h
      case hwx8r => rfl
      case hyx8r =>
        intro W hW
        go_simp
        try with_reducible rfl
      simp only [Act.put, List.setIfInBounds_toArray, List.set_cons_succ, List.set_cons_zero]
      refine wpAnyH_done (by kernel_rfl) ?_ _
      go_wp2_with fail
      go_ret
      exact ⟨rfl, BW.out.trans (hS.mono BW.out.size)⟩
theorem walkI (va vb : Value) (k b : List Int) (n : Int) (w : World) (hG : Glob w) (ha : Sees w va k) (hb : Sees w vb b) :
    Calls Tryd.prog 9 #[va, vb, .int .i64 n] w fun e w' => e = .returned (.bool true) ∧ Below w.heap.size w w' := by
  by_cases h : 300 < k.length ∨ 2000 < b.length ∨ n < 0 ∨ 64 < n
  · exact walk_great va vb k b n w hG ha hb h
  · obtain ⟨i, rfl⟩ := Int.eq_ofNat_of_zero_le (show 0 ≤ n by omega)
    by_cases h64 : 64 < k.length
    · exact walk_long va vb k b i w hG ha hb (by omega) (by omega) (by omega) h64
    · exact walk_short va vb k b i w hG ha hb (by omega) (by omega) (by omega)

set_option maxRecDepth 100000 in
theorem lifted (os : Os) (started : os.Started) (H : Type) (enc : TypeId × Value → H) :
    ReturnsInHanded {} Tryd.checked os 9 .any (fun w args => (Rows.hmacKeysSpec.pre enc Tryd.prog Tryd.f9 [] false w args ∧ laidMetH Tryd.prog laid2 w) ∧ sizedMet enc Tryd.prog Tryd.f9 (OpenSpec.ofChange Rows.hmacKeysSpec) false w args)
      (Rows.hmacKeysSpec.post enc Tryd.prog Tryd.f9 false true false false) := by
  refine returnsInHanded_of_change_and (C := Tryd.checked) (X := fun w _ => laidMetH Tryd.prog laid2 w) (fun _ _ _ hh h => h.of_heap hh) own started (by kernel_rfl) Tryd.func9
    (ChangeSpec.witness_shaped (enc := enc) (C := Tryd.checked) (os := os) (X := fun w _ => laidMetH Tryd.prog laid2 w) false (World.doorLaid Tryd.prog 400 os) #[.slice none 0 0, .slice none 0 0, .int .i64 0] 8 rfl (World.shaped_of_RefB (by kernel_rfl) (by kernel_rfl)) (by kernel_rfl) (by kernel_rfl) (by kernel_rfl) (door_met os _)) ?_
  intro W base args ds gs before hval0 hW _ _ hL _
  have hval : ∀ (j : Nat) t v, Tryd.f9.params[j]? = some t → args[j]? = some v → Value.okWide Tryd.prog W .any base t v := hval0
  have hW' := hW
  obtain ⟨p, q, hA0, hV, rfl, hfz, hnd⟩ := hW
  have hA : DataW.TrodAll enc Tryd.prog W 0 (fun _ => true) true Tryd.f9.params.toList args.toList ds p := hA0
  rw [Tryd.params9] at hA hval
  obtain ⟨v0, vs0, d0, ds0, p0, q0, hargs, rfl, rfl, h0, r0⟩ := trodAll_cons hA
  obtain ⟨v1, vs1, d1, ds1, p1, q1, rfl, rfl, rfl, h1, r1⟩ := trodAll_cons r0
  obtain ⟨v2, vs2, d2, ds2, p2, q2, rfl, rfl, rfl, h2, r2⟩ := trodAll_cons r1
  obtain ⟨rfl, rfl, rfl⟩ := trodAll_nil r2
  obtain rfl : args = #[v0, v1, v2] := by cases args; simp_all
  obtain ⟨rfl, rfl⟩ := trodVars_none hV
  obtain ⟨x0, s0⟩ := open_sees (hval 0 22 v0 rfl rfl) h0
  obtain ⟨x1, s1⟩ := open_sees (hval 1 22 v1 rfl rfl) h1
  obtain ⟨a2, rfl, rfl, rfl, w2⟩ := open_int Tryd.underlying3 (hval 2 3 v2 rfl rfl) h2
  have b2 := bounds_i64 w2
  refine (walkI v0 v1 x0 x1 a2 W (of_laid hL) s0 s1).mono fun e W' ⟨he, hb⟩ => ?_
  subst he
  exact ⟨_, rfl, law_post hW' rfl rfl rfl (by kernel_rfl) hb⟩
/-- The row's statement. -/
theorem row_holds : Rows.HmacKeysSaid :=
  OpenClaim.holds_of_wide 9 Tryd.f9 rfl rfl rfl rfl rfl rfl rfl ⟨rfl, rfl, rfl, rfl, rfl⟩ rfl rfl rfl rfl rfl (by kernel_rfl) Tryd.func9 (by kernel_rfl)
    (of_decide_eq_true (by kernel_rfl)) (by unfold Func.isWrapper; first | (rw [if_pos (by decide +kernel)]; kernel_rfl) | (rw [if_neg (by decide +kernel)]; exact ⟨rfl, rfl⟩))
    (fun os started H enc _ => lifted os started H enc)
/-- The tied card. -/
theorem proved : Rows.HmacKeysCardSaid :=
  Claim7.holds_tied_plain_at .later [] [.data, .data] true (true, "c1a692658ed27d6b705437531a4023b4f004fc9067d80523147904b9ccf5c916") false
    row_holds (fun _ h => by cases h) (by kernel_rfl) (fun _ h => by cases h) hmacKeys_row_tie rfl ⟨rfl, rfl⟩ (by kernel_rfl) rfl
    (fun f fn hf hfn => by
      obtain rfl : f = 9 := Option.some.inj ((show Tryd.prog.funcNamed "casemate/casematelaw03.HmacKeys" = some 9 by kernel_rfl).symm.trans hf) |>.symm
      obtain rfl : fn = Tryd.f9 := (Option.some.inj (Tryd.func9.symm.trans hfn)).symm
      exact ⟨by kernel_rfl, fun j t ht => by
        rw [Tryd.params9] at ht
        have hm : t ∈ [22, 22, 3] := by simpa using Array.mem_of_getElem? ht
        have hall : ([22, 22, 3].all fun u => !Tryd.prog.wantsStandIn u) = true := by kernel_rfl
        exact (show Tryd.prog.wantsStandIn t = false by simpa using List.all_eq_true.1 hall t hm)⟩)
    (by kernel_rfl)
#print axioms proved
end Go.Proofs.YtmkaagiabafooaaDoor.hmacKeys
