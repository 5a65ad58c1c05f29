/-
  For all keys, names, lengths and numbers the law HmacStreams of package casematelaw03 returns true, and what came in reads afterwards as before: streams and keys of keys are the document's, or are too long. Condition: the two tables of package sha read, when the call begins, as their declarations lay them (the card ties that to the program's text).
-/
import Derived.Test.YtmkaagiabafooaaDoorDer
import Derived.Test.YtmkaagiabafooaaDoorLaid
namespace Go.Proofs.YtmkaagiabafooaaDoor.hmacStreams
open Go.ChangeShapes Go.WideShapes Go.ChangeAt Go.RowKit
theorem u48 : Tryd.prog.underlying 48 = some (.array 32 5) := by kernel_rfl
/-- A key that came in. -/
theorem open_key {H : Type} {enc : TypeId × Value → H} {w : World} {r : Reach} {b0 base : Nat} {v : Value} {d : DataW H} {ps : List MemPlace}
    (hval : Value.okWide Tryd.prog w r b0 48 v) (hd : DataW.Trod enc Tryd.prog w base (fun _ => true) true 48 v d ps) : ∃ xs, v = .agg (bcells xs) ∧ Byt xs ∧ xs.length = 32 := by
  simp only [Value.okWide, u48] at hval
  obtain ⟨cs, rfl, hsz, _⟩ := hval
  obtain ⟨fuel, hf⟩ := hd
  have hf' : DataW.trod enc Tryd.prog w base (fun _ => true) true fuel 48 cs.toList = some (d, ps) := hf
  obtain ⟨ds, m, rfl, hx, hlen, hn, hel⟩ := DataW.trod_array u48 hf'
  have hl32 : cs.toList.length = 32 := by rw [hlen]; kernel_rfl
  have hone : Tryd.prog.cellsOf 5 = 1 := by kernel_rfl
  have hc : ∀ j, (hj : j < 32) → ∃ n : Int, cs.toList[j]? = some (.int .u8 n) ∧ 0 ≤ n ∧ n ≤ 255 := by
    intro j hj
    have h1 := hel j hj
    rw [hone, Nat.mul_one] at h1
    rw [List.getElem?_eq_getElem (show j < ds.length by omega)] at h1
    obtain ⟨k, e1, _, wf⟩ := DataW.trod_int Tryd.underlying5 h1
    have h2 : ((cs.toList.drop j).take 1)[0]? = some (.int .u8 k) := by rw [e1]; rfl
    rw [List.getElem?_take_of_lt (by omega), List.getElem?_drop, Nat.add_zero] at h2
    exact ⟨k, h2, bounds_u8 wf⟩
  refine ⟨cs.toList.map intOf, ?_, ?_, by rw [List.length_map, hl32]⟩
  · congr 1
    apply Array.toList_inj.1
    unfold bcells
    rw [List.map_map]
    apply List.ext_getElem?
    intro j
    by_cases hj : j < 32
    · obtain ⟨n, e, _⟩ := hc j hj
      simp [List.getElem?_map, e, intOf]
    · rw [List.getElem?_eq_none (by omega), List.getElem?_eq_none (by simp at hl32 ⊢; omega)]
  · intro x hx
    obtain ⟨v, hv, rfl⟩ := List.mem_map.1 hx
    obtain ⟨j, hj, rfl⟩ := List.mem_iff_getElem.1 hv
    obtain ⟨n, e, h0, h1⟩ := hc j (by omega)
    rw [List.getElem?_eq_getElem hj, Option.some.injEq] at e
    rw [e]
    exact ⟨h0, h1⟩
/-- The error that Expand tells. -/
def expE (n : Int) : Int := if n < 0 then 1 else if 8160 < n then 2 else 0
/-- .. and the bytes. -/
def expV (key name : List Int) (n : Int) : List Int := if n < 0 then [] else if 8160 < n then [] else strm key name n.toNat
def ExpP (w : World) (key name : List Int) (n : Int) (e : Ending) (w' : World) : Prop :=
  ∃ v, e = .returned (.tuple #[v, .int .i64 (expE n)]) ∧ Sees w' v (expV key name n) ∧ Below w.heap.size w w'
theorem expand (key name : List Int) (C : Array Value) (hC : C = bcells key) (vn : Value) (n : Int) (w : World) (hk : Byt key) (lk : key.length = 32) (hv : Sees w vn name) (ln : name.length ≤ 1000) (hG : Glob w) : Calls Tryd.prog 26 #[.agg C, vn, .int .i64 n] w (ExpP w key name n) := by
  subst hC
  obtain ⟨x, c, rfl, _⟩ := id hv.form
  by_cases h0 : n < 0
  · refine (expand_arg _ _ _ _ n h0 w).mono fun e w' ⟨he, hb⟩ => ⟨.slice none 0 0, ?_, ?_, hb⟩
    · rw [he]; unfold expE; rw [if_pos h0]
    · unfold expV; rw [if_pos h0]; exact sees_nil _
  · by_cases h1 : 8160 < n
    · refine (expand_long _ _ _ _ n h1 w).mono fun e w' ⟨he, hb⟩ => ⟨.slice none 0 0, ?_, ?_, hb⟩
      · rw [he]; unfold expE; rw [if_neg h0, if_pos h1]
      · unfold expV; rw [if_neg h0, if_pos h1]; exact sees_nil _
    · obtain ⟨m, rfl⟩ := Int.eq_ofNat_of_zero_le (show 0 ≤ n by omega)
      refine (expand_ok key name _ m (by omega) w hk lk hv (by omega) hG).mono fun e w' ⟨q, cap, he, hs, hb⟩ => ⟨.slice q m cap, ?_, ?_, hb⟩
      · rw [he]; unfold expE; rw [if_neg h0, if_neg h1]
      · unfold expV; rw [if_neg h0, if_neg h1]; exact hs
theorem expandD (key name : List Int) (vk vn : Value) (n : Int) (w : World) (hk : Sees w vk key) (lk : key.length = 32) (hv : Sees w vn name) (ln : name.length ≤ 1000) : Calls Tryd.prog 27 #[vk, vn, .int .i64 n] w (ExpP w key name n) := by
  by_cases h0 : n < 0
  · refine (expandD_arg _ _ n h0 w).mono fun e w' ⟨he, hb⟩ => ⟨.slice none 0 0, ?_, ?_, ?_⟩
    · rw [he]; unfold expE; rw [if_pos h0]
    · unfold expV; rw [if_pos h0]; exact sees_nil _
    · rw [hb]; exact Below.refl _ _
  · by_cases h1 : 8160 < n
    · refine (expandD_long _ _ n h1 w).mono fun e w' ⟨he, hb⟩ => ⟨.slice none 0 0, ?_, ?_, ?_⟩
      · rw [he]; unfold expE; rw [if_neg h0, if_pos h1]
      · unfold expV; rw [if_neg h0, if_pos h1]; exact sees_nil _
      · rw [hb]; exact Below.refl _ _
    · obtain ⟨m, rfl⟩ := Int.eq_ofNat_of_zero_le (show 0 ≤ n by omega)
      refine (expandD_ok vk vn key name m (by omega) w hk hv (by omega) ln).mono fun e w' ⟨q, cap, he, hs, hb⟩ => ⟨.slice q m cap, ?_, ?_, hb⟩
      · rw [he]; unfold expE; rw [if_neg h0, if_neg h1]
      · unfold expV; rw [if_neg h0, if_neg h1]; exact hs
theorem derive' (key name : List Int) (C : Array Value) (hC : C = bcells key) (num : Int) (hnum : 0 ≤ num ∧ num ≤ 18446744073709551615) (w : World) (hk : Byt key) (lk : key.length = 32) (hv : Byt name) (ln : name.length ≤ 900) (hG : Glob w) :
    Calls Tryd.prog 28 #[.agg C, .string (strOfNums name), .int .u64 num] w fun e w' => e = .returned (.agg (bcells (strm key (name ++ be 8 num) 32))) ∧ Below w.heap.size w w' := by
  subst hC
  exact derive key name num hnum w hk lk hv ln hG
set_option maxRecDepth 100000 in
set_option maxHeartbeats 4000000 in
theorem great1 (key name : List Int) (vn : Value) (n num : Int) (w : World) (hG : Glob w) (_hk : Byt key) (_lk : key.length = 32) (hn : Sees w vn name) (_hnum : 0 ≤ num ∧ num ≤ 18446744073709551615) (h : (100 : Int) < name.length) :
    Calls Tryd.prog 8 #[.agg (bcells key), vn, .int .i64 n, .int .u64 num] w fun e w' => e = .returned (.bool true) ∧ Below w.heap.size w w' := by
  obtain ⟨x1, c1, rfl, l1⟩ := hn.form
  have hb0 : Below w.heap.size w (w.alloc (.cells (bcells key) 48)) := (Below.refl _ _).alloc (Nat.le_refl _) _
  have AL := Lib.hid (alivc (w.alloc (.cells (bcells key) 48)) (hG.below hb0 (by have := hG.lt; omega)))
  have B0 := Lib.hid hb0
  obtain ⟨CK, hCK⟩ : ∃ C, C = bcells key := ⟨_, rfl⟩
  rw [← hCK] at AL B0 ⊢
  clear hn hG _hk _lk _hnum hb0 hCK
  go_enter Tryd.func8, Tryd.ntmps8
  go_wp2_with fail
  refine AL.out.mono ?_
  rintro e w1 ⟨rfl, hb⟩
  have HB : Hid (Below w.heap.size w w1) := B0.out.trans (hb.mono B0.out.size)
  clear hb
  go_wp2_with fail
  go_ret
  exact ⟨rfl, HB.out⟩
set_option maxRecDepth 100000 in
set_option maxHeartbeats 4000000 in
theorem great2 (key name : List Int) (vn : Value) (n num : Int) (w : World) (hG : Glob w) (_hk : Byt key) (_lk : key.length = 32) (hn : Sees w vn name) (_hnum : 0 ≤ num ∧ num ≤ 18446744073709551615) (h0 : ¬ (100 : Int) < name.length) (h1 : 300 < n) (h2 : n ≤ 8160) :
    Calls Tryd.prog 8 #[.agg (bcells key), vn, .int .i64 n, .int .u64 num] w fun e w' => e = .returned (.bool true) ∧ Below w.heap.size w w' := by
  obtain ⟨x1, c1, rfl, l1⟩ := hn.form
  have hb0 : Below w.heap.size w (w.alloc (.cells (bcells key) 48)) := (Below.refl _ _).alloc (Nat.le_refl _) _
  have AL := Lib.hid (alivc (w.alloc (.cells (bcells key) 48)) (hG.below hb0 (by have := hG.lt; omega)))
  have B0 := Lib.hid hb0
  obtain ⟨CK, hCK⟩ : ∃ C, C = bcells key := ⟨_, rfl⟩
  rw [← hCK] at AL B0 ⊢
  clear hn hG _hk _lk _hnum hb0 hCK
  go_enter Tryd.func8, Tryd.ntmps8
  go_wp2_with fail
  refine AL.out.mono ?_
  rintro e w1 ⟨rfl, hb⟩
  have HB : Hid (Below w.heap.size w w1) := B0.out.trans (hb.mono B0.out.size)
  clear hb
  go_wp2_with fail
  go_ret
  exact ⟨rfl, HB.out⟩
set_option maxRecDepth 100000 in
set_option maxHeartbeats 8000000 in
theorem walk1 (key name : List Int) (vn : Value) (n num : Int) (w : World) (hG : Glob w) (hk : Byt key) (lk : key.length = 32) (hn : Sees w vn name) (hnum : 0 ≤ num ∧ num ≤ 18446744073709551615) (hl : name.length ≤ 100) (h1 : n ≤ 300) :
    Calls Tryd.prog 8 #[.agg (bcells key), vn, .int .i64 n, .int .u64 num] w fun e w' => e = .returned (.bool true) ∧ Below w.heap.size w w' := by
  obtain ⟨x1, c1, rfl, l1⟩ := id hn.form
  have z48 : ∀ w, (zeroValue 48).run Tryd.prog w = .ok (.agg (bcells (List.replicate 32 0))) w := fun _ => by kernel_rfl
  obtain ⟨Z48, hZ⟩ : ∃ Z, Z = bcells (List.replicate 32 0) := ⟨_, rfl⟩
  rw [← hZ] at z48
  have h2w : 2 ≤ w.heap.size := by have := hG.lt; omega
  obtain ⟨CK, hCK⟩ : ∃ C, C = bcells key := ⟨_, rfl⟩
  have ik := i48' key lk
  rw [← hCK] at ik ⊢
  obtain ⟨W0, hW0⟩ : ∃ W0, W0 = w.alloc (.cells CK 48) := ⟨_, rfl⟩
  have g0 : W0.heap[w.heap.size]? = some (.cells CK 48 (0, 0)) := by rw [hW0]; exact heap_alloc_new w _
  have b0 : Below w.heap.size w W0 := by rw [hW0]; exact (Below.refl _ _).alloc (Nat.le_refl _) _
  have hlt0 : w.heap.size < W0.heap.size := blk_lt g0
  have EX : Hid (∀ W, Glob W → Sees W (.slice x1 name.length c1) name → Calls Tryd.prog 26 #[.agg CK, .slice x1 name.length c1, .int .i64 n] W (ExpP W key name n)) := fun W hg hs => expand key name CK hCK _ n W hk lk hs (by omega) hg
  have EXD : Hid (∀ W vk, Sees W vk key → Sees W (.slice x1 name.length c1) name → Calls Tryd.prog 27 #[vk, .slice x1 name.length c1, .int .i64 n] W (ExpP W key name n)) := fun W vk h1 hs => expandD key name vk _ n W h1 lk hs (by omega)
  have DV : Hid (∀ W, Glob W → Calls Tryd.prog 28 #[.agg CK, .string (strOfNums name), .int .u64 num] W fun e w' => e = .returned (.agg (bcells (strm key (name ++ be 8 num) 32))) ∧ Below W.heap.size W w') := fun W hg => derive' key name CK hCK num hnum W hk lk hn.1 (by omega) hg
  have DD : Hid (∀ W vk, Sees W vk key → Calls Tryd.prog 29 #[vk, .string (strOfNums name), .int .u64 num] W (OwnP W (strm key (name ++ be 8 num) 32))) := fun W vk h1 => by
    have := deriveD vk key name num hnum W h1 hn.1 (by omega) (by omega)
    rw [strm32 key _ hk] at this; exact this
  have lD := strm_len key (name ++ be 8 num) hk 32 (by omega)
  have bD := strm_byt key (name ++ be 8 num) 32
  generalize strm key (name ++ be 8 num) 32 = D at DV DD lD bD
  have SEEK : Hid (∀ W, Below W0.heap.size W0 W → Sees W (.slice (some ⟨w.heap.size, 0, none⟩) 32 32) key) := fun W hW => row_sees (t := 48) (by rw [hW.block _ hlt0, g0, hCK]) lk hk
  have ROWK : Hid (∀ W, Below W0.heap.size W0 W → W.heap[w.heap.size]? = some (.cells CK 48 (0, 0))) := fun W hW => by rw [hW.block _ hlt0]; exact g0
  have IK := Lib.hid ik
  have ID := Lib.hid (i48' D lD)
  have OD := Lib.hid (bone D)
  have ZD := Lib.hid (show Z48.size = (bcells D).size by rw [hZ, bsize, bsize, lD, List.length_replicate])
  have LD := Lib.hid lD
  have BD := Lib.hid bD
  have HN := Lib.hid hn
  have HGL := Lib.hid hG
  have H2W := Lib.hid h2w
  have B0 := Lib.hid b0
  have HW0 := Lib.hid hW0
  obtain ⟨V, hV⟩ : ∃ V, V = expV key name n := ⟨_, rfl⟩
  obtain ⟨E, hE⟩ : ∃ E, E = expE n := ⟨_, rfl⟩
  have HV := Lib.hid hV
  have HE := Lib.hid hE
  have t1 : ¬ (100 : Int) < name.length := by omega
  have t2 : ¬ 300 < n := by omega
  have sk := key_all
  clear hn hG hk lk hnum hCK hZ h2w ik g0 b0 hlt0 hW0 lD bD hV hE hl
  go_enter Tryd.func8, Tryd.ntmps8
  go_wp2_with (refine wpList_load_row rfl 48 (.tmp 4) rfl w.heap.size rfl 48 CK (0, 0) _ (by rw [← HW0.out]; exact ROWK.out _ (Below.refl _ _)) und48 rfl IK.out ?_)
  rw [← HW0.out]
  refine (EX.out _ (HGL.out.below B0.out H2W.out) (HN.out.below B0.out)).mono ?_
  rintro e w1 ⟨v1, rfl, s1, hb1⟩
  rw [← HV.out] at s1
  rw [← HE.out]
  have S1 := Lib.hid s1
  have C1 := Lib.hid hb1
  have B1 : Hid (Below w.heap.size w w1) := B0.out.trans (hb1.mono B0.out.size)
  clear s1 hb1
  go_wp2_with fail
  refine (EXD.out _ _ (SEEK.out _ C1.out) (HN.out.below B1.out)).mono ?_
  rintro e w2 ⟨v2, rfl, s2, hb2⟩
  rw [← HV.out] at s2
  rw [← HE.out]
  have S2 := Lib.hid s2
  have S1' := Lib.hid (S1.out.below hb2)
  have C2 : Hid (Below W0.heap.size W0 w2) := C1.out.trans (hb2.mono C1.out.size)
  have B2 : Hid (Below w.heap.size w w2) := B1.out.trans (hb2.mono B1.out.size)
  clear s2 hb2 S1 C1 B1
  have cs := (HN.out.below B2.out).str
  go_wp2_with (refine wpList_load_row rfl 48 (.tmp 4) rfl w.heap.size rfl 48 CK (0, 0) _ (ROWK.out _ C2.out) und48 rfl IK.out ?_)
  clear cs
  refine (DV.out _ (HGL.out.below B2.out H2W.out)).mono ?_
  rintro e w3 ⟨rfl, hb3⟩
  have S2' := Lib.hid (S2.out.below hb3)
  have S1'' := Lib.hid (S1'.out.below hb3)
  have C3 : Hid (Below W0.heap.size W0 w3) := C2.out.trans (hb3.mono C2.out.size)
  have B3 : Hid (Below w.heap.size w w3) := B2.out.trans (hb3.mono B2.out.size)
  clear hb3 S1' S2 C2 B2
  have r4 := setRow_heap _ w3.heap.size _ (bcells D) _ _ (heap_alloc_new w3 (.cells Z48 48))
  have q4 : Below w3.heap.size w3 ((w3.alloc (.cells Z48 48)).setRow w3.heap.size (bcells D)) := ((Below.refl _ _).alloc (Nat.le_refl _) _).trans (below_row _ _ (Nat.le_refl _))
  go_wp2_with (refine wpList_store_row rfl 48 (.tmp 13) (.tmp 44) rfl w3.heap.size (bcells D) rfl rfl 48 Z48 (heap_alloc_new w3 _) ID.out ZD.out OD.out ?_)
  generalize (w3.alloc (.cells Z48 48)).setRow w3.heap.size (bcells D) = w4 at r4 q4 ⊢
  have RD := Lib.hid (row_sees r4 LD.out BD.out)
  have R1 := Lib.hid (S1''.out.below q4)
  have R2 := Lib.hid (S2'.out.below q4)
  have C4 : Hid (Below W0.heap.size W0 w4) := C3.out.trans (q4.mono C3.out.size)
  have B4 : Hid (Below w.heap.size w w4) := B3.out.trans (q4.mono B3.out.size)
  clear r4 q4 S1'' S2' C3 B3
  refine wp_region_held_drew (S := fun W => Below w4.heap.size w4 W) (by kernel_rfl) (Below.refl _ _).drew (fun hS => ?_)
  refine wpAnyH_ready (rs := [0]) (by kernel_rfl) (by simp) ?_
  refine' AllReadyH.cons ?hoc0p (fun K hK => ?stc0p) AllReadyH.nil
  case hoc0p => (simp only [List.getElem?_toArray, List.getElem?_cons_zero]; rfl)
  go_simp
  refine (alivc _ (HGL.out.below (B4.out.trans (hS.mono B4.out.size)) H2W.out)).mono ?_
  rintro e wa ⟨rfl, hb⟩
  go_wp2_with fail
  refine hK.out _ _ (hS.trans (hb.mono hS.size)) (fun hHeld => ?_)
  clear hK K
  try simp only [Act.put, List.setIfInBounds_toArray, List.set_cons_succ, List.set_cons_zero]
  clear hS hb
  have hS := hHeld
  clear hHeld
  refine' wpAnyH_take (i := 1) ?h1x1p ?hsx1p ?hfx1p ?hrx1p ?hQx1p (Or.inl ⟨?hwx1p, ?hyx1p⟩) hS ?restx1p
  case h1x1p => (simp only [List.getElem?_toArray, List.getElem?_cons_succ, List.getElem?_cons_zero]; rfl)
  case hsx1p => kernel_rfl
  case hfx1p => kernel_rfl
  case hrx1p => kernel_rfl
  case hQx1p => exact fun _ _ _ h => h
  case hwx1p => rfl
  case hyx1p =>
    intro W hW
    go_simp
    try with_reducible rfl
  simp only [Act.put, List.setIfInBounds_toArray, List.set_cons_succ, List.set_cons_zero]
  refine' wpAnyH_take (i := 2) ?h1x2p ?hsx2p ?hfx2p ?hrx2p ?hQx2p (Or.inl ⟨?hwx2p, ?hyx2p⟩) hS ?restx2p
  case h1x2p => (simp only [List.getElem?_toArray, List.getElem?_cons_succ, List.getElem?_cons_zero]; rfl)
  case hsx2p => kernel_rfl
  case hfx2p => kernel_rfl
  case hrx2p => kernel_rfl
  case hQx2p => exact fun _ _ _ h => h
  case hwx2p => rfl
  case hyx2p =>
    intro W hW
    go_simp
    try with_reducible rfl
  simp only [Act.put, List.setIfInBounds_toArray, List.set_cons_succ, List.set_cons_zero]
  refine' wpAnyH_take (i := 3) ?h1x3p ?hsx3p ?hfx3p ?hrx3p ?hQx3p (Or.inl ⟨?hwx3p, ?hyx3p⟩) hS ?restx3p
  case h1x3p => (simp only [List.getElem?_toArray, List.getElem?_cons_succ, List.getElem?_cons_zero]; rfl)
  case hsx3p => kernel_rfl
  case hfx3p => kernel_rfl
  case hrx3p => kernel_rfl
  case hQx3p => exact fun _ _ _ h => h
  case hwx3p => rfl
  case hyx3p =>
    intro W hW
    have cs := (R1.out.below hW).str
    go_simp
    try with_reducible rfl
  simp only [Act.put, List.setIfInBounds_toArray, List.set_cons_succ, List.set_cons_zero]
  refine' wpAnyH_take (i := 4) ?h1x4p ?hsx4p ?hfx4p ?hrx4p ?hQx4p (Or.inl ⟨?hwx4p, ?hyx4p⟩) hS ?restx4p
  case h1x4p => (simp only [List.getElem?_toArray, List.getElem?_cons_succ, List.getElem?_cons_zero]; rfl)
  case hsx4p => kernel_rfl
  case hfx4p => kernel_rfl
  case hrx4p => kernel_rfl
  case hQx4p => exact fun _ _ _ h => h
  case hwx4p => rfl
  case hyx4p =>
    intro W hW
    go_simp
    try with_reducible rfl
  simp only [Act.put, List.setIfInBounds_toArray, List.set_cons_succ, List.set_cons_zero]
  refine' wpAnyH_take (i := 5) ?h1x5p ?hsx5p ?hfx5p ?hrx5p ?hQx5p (Or.inl ⟨?hwx5p, ?hyx5p⟩) hS ?restx5p
  case h1x5p => (simp only [List.getElem?_toArray, List.getElem?_cons_succ, List.getElem?_cons_zero]; rfl)
  case hsx5p => kernel_rfl
  case hfx5p => kernel_rfl
  case hrx5p => kernel_rfl
  case hQx5p => exact fun _ _ _ h => h
  case hwx5p => rfl
  case hyx5p =>
    intro W hW
    have cs := (R2.out.below hW).str
    go_simp
    try with_reducible rfl
  simp only [Act.put, List.setIfInBounds_toArray, List.set_cons_succ, List.set_cons_zero]
  refine' wpAnyH_take (i := 6) ?h1x6p ?hsx6p ?hfx6p ?hrx6p ?hQx6p (Or.inl ⟨?hwx6p, ?hyx6p⟩) hS ?restx6p
  case h1x6p => (simp only [List.getElem?_toArray, List.getElem?_cons_succ, List.getElem?_cons_zero]; rfl)
  case hsx6p => kernel_rfl
  case hfx6p => kernel_rfl
  case hrx6p => kernel_rfl
  case hQx6p => exact fun _ _ _ h => h
  case hwx6p => rfl
  case hyx6p =>
    intro W hW
    go_simp
    try with_reducible rfl
  simp only [Act.put, List.setIfInBounds_toArray, List.set_cons_succ, List.set_cons_zero]
  refine' wpAnyH_take (i := 7) ?h1x7p ?hsx7p ?hfx7p ?hrx7p ?hQx7p (Or.inl ⟨?hwx7p, ?hyx7p⟩) hS ?restx7p
  case h1x7p => (simp only [List.getElem?_toArray, List.getElem?_cons_succ, List.getElem?_cons_zero]; rfl)
  case hsx7p => kernel_rfl
  case hfx7p => kernel_rfl
  case hrx7p => kernel_rfl
  case hQx7p => exact fun _ _ _ h => h
  case hwx7p => rfl
  case hyx7p =>
    intro W hW
    go_simp
    try with_reducible rfl
  simp only [Act.put, List.setIfInBounds_toArray, List.set_cons_succ, List.set_cons_zero]
  refine' wpAnyH_take (i := 8) ?h1x8p ?hsx8p ?hfx8p ?hrx8p ?hQx8p (Or.inl ⟨?hwx8p, ?hyx8p⟩) hS ?restx8p
  case h1x8p => (simp only [List.getElem?_toArray, List.getElem?_cons_succ, List.getElem?_cons_zero]; rfl)
  case hsx8p => kernel_rfl
  case hfx8p => kernel_rfl
  case hrx8p => kernel_rfl
  case hQx8p => exact fun _ _ _ h => h
  case hwx8p => rfl
  case hyx8p =>
    intro W hW
    go_simp
    try with_reducible rfl
  simp only [Act.put, List.setIfInBounds_toArray, List.set_cons_succ, List.set_cons_zero]
  refine' wpAnyH_take (i := 9) ?h1x9p ?hsx9p ?hfx9p ?hrx9p ?hQx9p (Or.inl ⟨?hwx9p, ?hyx9p⟩) hS ?restx9p
  case h1x9p => (simp only [List.getElem?_toArray, List.getElem?_cons_succ, List.getElem?_cons_zero]; rfl)
  case hsx9p => kernel_rfl
  case hfx9p => kernel_rfl
  case hrx9p => kernel_rfl
  case hQx9p => exact fun _ _ _ h => h
  case hwx9p => rfl
  case hyx9p =>
    intro W hW
    go_simp
    try with_reducible rfl
  simp only [Act.put, List.setIfInBounds_toArray, List.set_cons_succ, List.set_cons_zero]
  refine' wpAnyH_take (i := 10) ?h1x10p ?hsx10p ?hfx10p ?hrx10p ?hQx10p (Or.inl ⟨?hwx10p, ?hyx10p⟩) hS ?restx10p
  case h1x10p => (simp only [List.getElem?_toArray, List.getElem?_cons_succ, List.getElem?_cons_zero]; rfl)
  case hsx10p => kernel_rfl
  case hfx10p => kernel_rfl
  case hrx10p => kernel_rfl
  case hQx10p => exact fun _ _ _ h => h
  case hwx10p => rfl
  case hyx10p =>
    intro W hW
    go_simp
    try with_reducible rfl
  simp only [Act.put, List.setIfInBounds_toArray, List.set_cons_succ, List.set_cons_zero]
  refine' wpAnyH_take (i := 11) ?h1x11p ?hsx11p ?hfx11p ?hrx11p ?hQx11p (Or.inl ⟨?hwx11p, ?hyx11p⟩) hS ?restx11p
  case h1x11p => (simp only [List.getElem?_toArray, List.getElem?_cons_succ, List.getElem?_cons_zero]; rfl)
  case hsx11p => kernel_rfl
  case hfx11p => kernel_rfl
  case hrx11p => kernel_rfl
  case hQx11p => exact fun _ _ _ h => h
  case hwx11p => rfl
  case hyx11p =>
    intro W hW
    go_simp
    try with_reducible rfl
  simp only [Act.put, List.setIfInBounds_toArray, List.set_cons_succ, List.set_cons_zero]
  refine' wpAnyH_take (i := 12) ?h1x12p ?hsx12p ?hfx12p ?hrx12p ?hQx12p (Or.inl ⟨?hwx12p, ?hyx12p⟩) hS ?restx12p
  case h1x12p => (simp only [List.getElem?_toArray, List.getElem?_cons_succ, List.getElem?_cons_zero]; rfl)
  case hsx12p => kernel_rfl
  case hfx12p => kernel_rfl
  case hrx12p => kernel_rfl
  case hQx12p => exact fun _ _ _ h => h
  case hwx12p => rfl
  case hyx12p =>
    intro W hW
    go_simp
    try with_reducible rfl
  simp only [Act.put, List.setIfInBounds_toArray, List.set_cons_succ, List.set_cons_zero]
  refine' wpAnyH_take (i := 13) ?h1x13p ?hsx13p ?hfx13p ?hrx13p ?hQx13p (Or.inl ⟨?hwx13p, ?hyx13p⟩) hS ?restx13p
  case h1x13p => (simp only [List.getElem?_toArray, List.getElem?_cons_succ, List.getElem?_cons_zero]; rfl)
  case hsx13p => kernel_rfl
  case hfx13p => kernel_rfl
  case hrx13p => kernel_rfl
  case hQx13p => exact fun _ _ _ h => h
  case hwx13p => rfl
  case hyx13p =>
    intro W hW
    go_simp
    try with_reducible rfl
  simp only [Act.put, List.setIfInBounds_toArray, List.set_cons_succ, List.set_cons_zero]
  refine' wpAnyH_take (i := 14) ?h1x14p ?hsx14p ?hfx14p ?hrx14p ?hQx14p (Or.inl ⟨?hwx14p, ?hyx14p⟩) hS ?restx14p
  case h1x14p => (simp only [List.getElem?_toArray, List.getElem?_cons_succ, List.getElem?_cons_zero]; rfl)
  case hsx14p => kernel_rfl
  case hfx14p => kernel_rfl
  case hrx14p => kernel_rfl
  case hQx14p => exact fun _ _ _ h => h
  case hwx14p => rfl
  case hyx14p =>
    intro W hW
    go_simp
    try with_reducible rfl
  simp only [Act.put, List.setIfInBounds_toArray, List.set_cons_succ, List.set_cons_zero]
  refine' wpAnyH_take (i := 15) ?h1x15p ?hsx15p ?hfx15p ?hrx15p ?hQx15p (Or.inl ⟨?hwx15p, ?hyx15p⟩) hS ?restx15p
  case h1x15p => (simp only [List.getElem?_toArray, List.getElem?_cons_succ, List.getElem?_cons_zero]; rfl)
  case hsx15p => kernel_rfl
  case hfx15p => kernel_rfl
  case hrx15p => kernel_rfl
  case hQx15p => exact fun _ _ _ h => h
  case hwx15p => rfl
  case hyx15p =>
    intro W hW
    have cs := (RD.out.below hW).str
    go_simp
    try with_reducible rfl
  simp only [Act.put, List.setIfInBounds_toArray, List.set_cons_succ, List.set_cons_zero]
  refine' wpAnyH_take (i := 16) ?h1x16p ?hsx16p ?hfx16p ?hrx16p ?hQx16p (Or.inl ⟨?hwx16p, ?hyx16p⟩) hS ?restx16p
  case h1x16p => (simp only [List.getElem?_toArray, List.getElem?_cons_succ, List.getElem?_cons_zero]; rfl)
  case hsx16p => kernel_rfl
  case hfx16p => kernel_rfl
  case hrx16p => kernel_rfl
  case hQx16p => exact fun _ _ _ h => h
  case hwx16p => rfl
  case hyx16p =>
    intro W hW
    go_simp
    try with_reducible rfl
  simp only [Act.put, List.setIfInBounds_toArray, List.set_cons_succ, List.set_cons_zero]
  refine' wpAnyH_take (i := 17) ?h1x17p ?hsx17p ?hfx17p ?hrx17p ?hQx17p (Or.inl ⟨?hwx17p, ?hyx17p⟩) hS ?restx17p
  case h1x17p => (simp only [List.getElem?_toArray, List.getElem?_cons_succ, List.getElem?_cons_zero]; rfl)
  case hsx17p => kernel_rfl
  case hfx17p => kernel_rfl
  case hrx17p => kernel_rfl
  case hQx17p => exact fun _ _ _ h => h
  case hwx17p => rfl
  case hyx17p =>
    intro W hW
    go_simp
    try with_reducible rfl
  simp only [Act.put, List.setIfInBounds_toArray, List.set_cons_succ, List.set_cons_zero]
  refine' wpAnyH_take (i := 18) ?h1x18p ?hsx18p ?hfx18p ?hrx18p ?hQx18p (Or.inl ⟨?hwx18p, ?hyx18p⟩) hS ?restx18p
  case h1x18p => (simp only [List.getElem?_toArray, List.getElem?_cons_succ, List.getElem?_cons_zero]; rfl)
  case hsx18p => kernel_rfl
  case hfx18p => kernel_rfl
  case hrx18p => kernel_rfl
  case hQx18p => exact fun _ _ _ h => h
  case hwx18p => rfl
  case hyx18p =>
    intro W hW
    have cs := (HN.out.below (B4.out.trans (hW.mono B4.out.size))).str
    go_simp
    try with_reducible rfl
  simp only [Act.put, List.setIfInBounds_toArray, List.set_cons_succ, List.set_cons_zero]
  refine' wpAnyH_take (i := 19) ?h1x19p ?hsx19p ?hfx19p ?hrx19p ?hQx19p (Or.inl ⟨?hwx19p, ?hyx19p⟩) hS ?restx19p
  case h1x19p => (simp only [List.getElem?_toArray, List.getElem?_cons_succ, List.getElem?_cons_zero]; rfl)
  case hsx19p => kernel_rfl
  case hfx19p => kernel_rfl
  case hrx19p => kernel_rfl
  case hQx19p => exact fun _ _ _ h => h
  case hwx19p => rfl
  case hyx19p =>
    intro W hW
    go_simp
    try with_reducible rfl
  simp only [Act.put, List.setIfInBounds_toArray, List.set_cons_succ, List.set_cons_zero]
  refine wpAnyH_ready (rs := [20]) (by kernel_rfl) (by simp) ?_
  refine' AllReadyH.cons ?hoc20p (fun K hK => ?stc20p) AllReadyH.nil
  case hoc20p => (simp only [List.getElem?_toArray, List.getElem?_cons_succ, List.getElem?_cons_zero]; rfl)
  go_simp
  refine (DD.out _ _ (SEEK.out _ (C4.out.trans (hS.mono C4.out.size)))).mono ?_
  rintro e w5 ⟨x5, c5, rfl, ho5, hb⟩
  go_wp2_with fail
  refine hK.out _ _ (hS.trans (hb.mono hS.size)) (fun hHeld => ?_)
  clear hK K
  try simp only [Act.put, List.setIfInBounds_toArray, List.set_cons_succ, List.set_cons_zero]
  have B45 := Lib.hid hHeld
  refine more (S' := fun W => Below w5.heap.size w5 W) (fun W hW => B45.out.trans (hW.mono B45.out.size)) _ _ _ _ ?_
  have RS5 := Lib.hid ho5.sees
  have B05 : Hid (Below w.heap.size w w5) := B4.out.trans (B45.out.mono B4.out.size)
  clear ho5
  clear hS hb hHeld
  have hS : Below w5.heap.size w5 w5 := Below.refl _ _
  refine' wpAnyH_take (i := 21) ?h1x21p ?hsx21p ?hfx21p ?hrx21p ?hQx21p (Or.inl ⟨?hwx21p, ?hyx21p⟩) hS ?restx21p
  case h1x21p => (simp only [List.getElem?_toArray, List.getElem?_cons_succ, List.getElem?_cons_zero]; rfl)
  case hsx21p => kernel_rfl
  case hfx21p => kernel_rfl
  case hrx21p => kernel_rfl
  case hQx21p => exact fun _ _ _ h => h
  case hwx21p => rfl
  case hyx21p =>
    intro W hW
    have cs := (RS5.out.below hW).str
    go_simp
    try with_reducible rfl
  simp only [Act.put, List.setIfInBounds_toArray, List.set_cons_succ, List.set_cons_zero]
  refine' wpAnyH_take (i := 22) ?h1x22p ?hsx22p ?hfx22p ?hrx22p ?hQx22p (Or.inl ⟨?hwx22p, ?hyx22p⟩) hS ?restx22p
  case h1x22p => (simp only [List.getElem?_toArray, List.getElem?_cons_succ, List.getElem?_cons_zero]; rfl)
  case hsx22p => kernel_rfl
  case hfx22p => kernel_rfl
  case hrx22p => kernel_rfl
  case hQx22p => exact fun _ _ _ h => h
  case hwx22p => rfl
  case hyx22p =>
    intro W hW
    go_simp
    try with_reducible rfl
  simp only [Act.put, List.setIfInBounds_toArray, List.set_cons_succ, List.set_cons_zero]
  refine' wpAnyH_take (i := 23) ?h1x23p ?hsx23p ?hfx23p ?hrx23p ?hQx23p (Or.inl ⟨?hwx23p, ?hyx23p⟩) hS ?restx23p
  case h1x23p => (simp only [List.getElem?_toArray, List.getElem?_cons_succ, List.getElem?_cons_zero]; rfl)
  case hsx23p => kernel_rfl
  case hfx23p => kernel_rfl
  case hrx23p => kernel_rfl
  case hQx23p => exact fun _ _ _ h => h
  case hwx23p => rfl
  case hyx23p =>
    intro W hW
    go_simp
    try with_reducible rfl
  simp only [Act.put, List.setIfInBounds_toArray, List.set_cons_succ, List.set_cons_zero]
  refine' wpAnyH_take (i := 24) ?h1x24p ?hsx24p ?hfx24p ?hrx24p ?hQx24p (Or.inl ⟨?hwx24p, ?hyx24p⟩) hS ?restx24p
  case h1x24p => (simp only [List.getElem?_toArray, List.getElem?_cons_succ, List.getElem?_cons_zero]; rfl)
  case hsx24p => kernel_rfl
  case hfx24p => kernel_rfl
  case hrx24p => kernel_rfl
  case hQx24p => exact fun _ _ _ h => h
  case hwx24p => rfl
  case hyx24p =>
    intro W hW
    go_simp
    try with_reducible rfl
  simp only [Act.put, List.setIfInBounds_toArray, List.set_cons_succ, List.set_cons_zero]
  refine wpAnyH_done (by kernel_rfl) ?_ _
  go_wp2_with fail
  go_ret
  exact ⟨rfl, B05.out.trans (hS.mono B05.out.size)⟩
set_option maxRecDepth 100000 in
set_option maxHeartbeats 8000000 in
theorem walk2 (key name : List Int) (vn : Value) (n num : Int) (w : World) (hG : Glob w) (hk : Byt key) (lk : key.length = 32) (hn : Sees w vn name) (hnum : 0 ≤ num ∧ num ≤ 18446744073709551615) (hl : name.length ≤ 100) (h1 : 8160 < n) :
    Calls Tryd.prog 8 #[.agg (bcells key), vn, .int .i64 n, .int .u64 num] w fun e w' => e = .returned (.bool true) ∧ Below w.heap.size w w' := by
  obtain ⟨x1, c1, rfl, l1⟩ := id hn.form
  have z48 : ∀ w, (zeroValue 48).run Tryd.prog w = .ok (.agg (bcells (List.replicate 32 0))) w := fun _ => by kernel_rfl
  obtain ⟨Z48, hZ⟩ : ∃ Z, Z = bcells (List.replicate 32 0) := ⟨_, rfl⟩
  rw [← hZ] at z48
  have h2w : 2 ≤ w.heap.size := by have := hG.lt; omega
  obtain ⟨CK, hCK⟩ : ∃ C, C = bcells key := ⟨_, rfl⟩
  have ik := i48' key lk
  rw [← hCK] at ik ⊢
  obtain ⟨W0, hW0⟩ : ∃ W0, W0 = w.alloc (.cells CK 48) := ⟨_, rfl⟩
  have g0 : W0.heap[w.heap.size]? = some (.cells CK 48 (0, 0)) := by rw [hW0]; exact heap_alloc_new w _
  have b0 : Below w.heap.size w W0 := by rw [hW0]; exact (Below.refl _ _).alloc (Nat.le_refl _) _
  have hlt0 : w.heap.size < W0.heap.size := blk_lt g0
  have EX : Hid (∀ W, Glob W → Sees W (.slice x1 name.length c1) name → Calls Tryd.prog 26 #[.agg CK, .slice x1 name.length c1, .int .i64 n] W (ExpP W key name n)) := fun W hg hs => expand key name CK hCK _ n W hk lk hs (by omega) hg
  have EXD : Hid (∀ W vk, Sees W vk key → Sees W (.slice x1 name.length c1) name → Calls Tryd.prog 27 #[vk, .slice x1 name.length c1, .int .i64 n] W (ExpP W key name n)) := fun W vk h1 hs => expandD key name vk _ n W h1 lk hs (by omega)
  have DV : Hid (∀ W, Glob W → Calls Tryd.prog 28 #[.agg CK, .string (strOfNums name), .int .u64 num] W fun e w' => e = .returned (.agg (bcells (strm key (name ++ be 8 num) 32))) ∧ Below W.heap.size W w') := fun W hg => derive' key name CK hCK num hnum W hk lk hn.1 (by omega) hg
  have DD : Hid (∀ W vk, Sees W vk key → Calls Tryd.prog 29 #[vk, .string (strOfNums name), .int .u64 num] W (OwnP W (strm key (name ++ be 8 num) 32))) := fun W vk h1 => by
    have := deriveD vk key name num hnum W h1 hn.1 (by omega) (by omega)
    rw [strm32 key _ hk] at this; exact this
  have lD := strm_len key (name ++ be 8 num) hk 32 (by omega)
  have bD := strm_byt key (name ++ be 8 num) 32
  generalize strm key (name ++ be 8 num) 32 = D at DV DD lD bD
  have SEEK : Hid (∀ W, Below W0.heap.size W0 W → Sees W (.slice (some ⟨w.heap.size, 0, none⟩) 32 32) key) := fun W hW => row_sees (t := 48) (by rw [hW.block _ hlt0, g0, hCK]) lk hk
  have ROWK : Hid (∀ W, Below W0.heap.size W0 W → W.heap[w.heap.size]? = some (.cells CK 48 (0, 0))) := fun W hW => by rw [hW.block _ hlt0]; exact g0
  have IK := Lib.hid ik
  have ID := Lib.hid (i48' D lD)
  have OD := Lib.hid (bone D)
  have ZD := Lib.hid (show Z48.size = (bcells D).size by rw [hZ, bsize, bsize, lD, List.length_replicate])
  have LD := Lib.hid lD
  have BD := Lib.hid bD
  have HN := Lib.hid hn
  have HGL := Lib.hid hG
  have H2W := Lib.hid h2w
  have B0 := Lib.hid b0
  have HW0 := Lib.hid hW0
  obtain ⟨V, hV⟩ : ∃ V, V = expV key name n := ⟨_, rfl⟩
  obtain ⟨E, hE⟩ : ∃ E, E = expE n := ⟨_, rfl⟩
  have HV := Lib.hid hV
  have HE := Lib.hid hE
  have t1 : ¬ (100 : Int) < name.length := by omega
  have t2 : 300 < n := by omega
  have t3 : ¬ n ≤ 8160 := by omega
  have sk := key_all
  clear hn hG hk lk hnum hCK hZ h2w ik g0 b0 hlt0 hW0 lD bD hV hE hl
  go_enter Tryd.func8, Tryd.ntmps8
  go_wp2_with (refine wpList_load_row rfl 48 (.tmp 4) rfl w.heap.size rfl 48 CK (0, 0) _ (by rw [← HW0.out]; exact ROWK.out _ (Below.refl _ _)) und48 rfl IK.out ?_)
  rw [← HW0.out]
  refine (EX.out _ (HGL.out.below B0.out H2W.out) (HN.out.below B0.out)).mono ?_
  rintro e w1 ⟨v1, rfl, s1, hb1⟩
  rw [← HV.out] at s1
  rw [← HE.out]
  have S1 := Lib.hid s1
  have C1 := Lib.hid hb1
  have B1 : Hid (Below w.heap.size w w1) := B0.out.trans (hb1.mono B0.out.size)
  clear s1 hb1
  go_wp2_with fail
  refine (EXD.out _ _ (SEEK.out _ C1.out) (HN.out.below B1.out)).mono ?_
  rintro e w2 ⟨v2, rfl, s2, hb2⟩
  rw [← HV.out] at s2
  rw [← HE.out]
  have S2 := Lib.hid s2
  have S1' := Lib.hid (S1.out.below hb2)
  have C2 : Hid (Below W0.heap.size W0 w2) := C1.out.trans (hb2.mono C1.out.size)
  have B2 : Hid (Below w.heap.size w w2) := B1.out.trans (hb2.mono B1.out.size)
  clear s2 hb2 S1 C1 B1
  have cs := (HN.out.below B2.out).str
  go_wp2_with (refine wpList_load_row rfl 48 (.tmp 4) rfl w.heap.size rfl 48 CK (0, 0) _ (ROWK.out _ C2.out) und48 rfl IK.out ?_)
  clear cs
  refine (DV.out _ (HGL.out.below B2.out H2W.out)).mono ?_
  rintro e w3 ⟨rfl, hb3⟩
  have S2' := Lib.hid (S2.out.below hb3)
  have S1'' := Lib.hid (S1'.out.below hb3)
  have C3 : Hid (Below W0.heap.size W0 w3) := C2.out.trans (hb3.mono C2.out.size)
  have B3 : Hid (Below w.heap.size w w3) := B2.out.trans (hb3.mono B2.out.size)
  clear hb3 S1' S2 C2 B2
  have r4 := setRow_heap _ w3.heap.size _ (bcells D) _ _ (heap_alloc_new w3 (.cells Z48 48))
  have q4 : Below w3.heap.size w3 ((w3.alloc (.cells Z48 48)).setRow w3.heap.size (bcells D)) := ((Below.refl _ _).alloc (Nat.le_refl _) _).trans (below_row _ _ (Nat.le_refl _))
  go_wp2_with (refine wpList_store_row rfl 48 (.tmp 13) (.tmp 44) rfl w3.heap.size (bcells D) rfl rfl 48 Z48 (heap_alloc_new w3 _) ID.out ZD.out OD.out ?_)
  generalize (w3.alloc (.cells Z48 48)).setRow w3.heap.size (bcells D) = w4 at r4 q4 ⊢
  have RD := Lib.hid (row_sees r4 LD.out BD.out)
  have R1 := Lib.hid (S1''.out.below q4)
  have R2 := Lib.hid (S2'.out.below q4)
  have C4 : Hid (Below W0.heap.size W0 w4) := C3.out.trans (q4.mono C3.out.size)
  have B4 : Hid (Below w.heap.size w w4) := B3.out.trans (q4.mono B3.out.size)
  clear r4 q4 S1'' S2' C3 B3
  refine wp_region_held_drew (S := fun W => Below w4.heap.size w4 W) (by kernel_rfl) (Below.refl _ _).drew (fun hS => ?_)
  refine wpAnyH_ready (rs := [0]) (by kernel_rfl) (by simp) ?_
  refine' AllReadyH.cons ?hoc0p (fun K hK => ?stc0p) AllReadyH.nil
  case hoc0p => (simp only [List.getElem?_toArray, List.getElem?_cons_zero]; rfl)
  go_simp
  refine (alivc _ (HGL.out.below (B4.out.trans (hS.mono B4.out.size)) H2W.out)).mono ?_
  rintro e wa ⟨rfl, hb⟩
  go_wp2_with fail
  refine hK.out _ _ (hS.trans (hb.mono hS.size)) (fun hHeld => ?_)
  clear hK K
  try simp only [Act.put, List.setIfInBounds_toArray, List.set_cons_succ, List.set_cons_zero]
  clear hS hb
  have hS := hHeld
  clear hHeld
  refine' wpAnyH_take (i := 1) ?h1x1p ?hsx1p ?hfx1p ?hrx1p ?hQx1p (Or.inl ⟨?hwx1p, ?hyx1p⟩) hS ?restx1p
  case h1x1p => (simp only [List.getElem?_toArray, List.getElem?_cons_succ, List.getElem?_cons_zero]; rfl)
  case hsx1p => kernel_rfl
  case hfx1p => kernel_rfl
  case hrx1p => kernel_rfl
  case hQx1p => exact fun _ _ _ h => h
  case hwx1p => rfl
  case hyx1p =>
    intro W hW
    go_simp
    try with_reducible rfl
  simp only [Act.put, List.setIfInBounds_toArray, List.set_cons_succ, List.set_cons_zero]
  refine' wpAnyH_take (i := 2) ?h1x2p ?hsx2p ?hfx2p ?hrx2p ?hQx2p (Or.inl ⟨?hwx2p, ?hyx2p⟩) hS ?restx2p
  case h1x2p => (simp only [List.getElem?_toArray, List.getElem?_cons_succ, List.getElem?_cons_zero]; rfl)
  case hsx2p => kernel_rfl
  case hfx2p => kernel_rfl
  case hrx2p => kernel_rfl
  case hQx2p => exact fun _ _ _ h => h
  case hwx2p => rfl
  case hyx2p =>
    intro W hW
    go_simp
    try with_reducible rfl
  simp only [Act.put, List.setIfInBounds_toArray, List.set_cons_succ, List.set_cons_zero]
  refine' wpAnyH_take (i := 3) ?h1x3p ?hsx3p ?hfx3p ?hrx3p ?hQx3p (Or.inl ⟨?hwx3p, ?hyx3p⟩) hS ?restx3p
  case h1x3p => (simp only [List.getElem?_toArray, List.getElem?_cons_succ, List.getElem?_cons_zero]; rfl)
  case hsx3p => kernel_rfl
  case hfx3p => kernel_rfl
  case hrx3p => kernel_rfl
  case hQx3p => exact fun _ _ _ h => h
  case hwx3p => rfl
  case hyx3p =>
    intro W hW
    have cs := (R1.out.below hW).str
    go_simp
    try with_reducible rfl
  simp only [Act.put, List.setIfInBounds_toArray, List.set_cons_succ, List.set_cons_zero]
  refine' wpAnyH_take (i := 4) ?h1x4p ?hsx4p ?hfx4p ?hrx4p ?hQx4p (Or.inl ⟨?hwx4p, ?hyx4p⟩) hS ?restx4p
  case h1x4p => (simp only [List.getElem?_toArray, List.getElem?_cons_succ, List.getElem?_cons_zero]; rfl)
  case hsx4p => kernel_rfl
  case hfx4p => kernel_rfl
  case hrx4p => kernel_rfl
  case hQx4p => exact fun _ _ _ h => h
  case hwx4p => rfl
  case hyx4p =>
    intro W hW
    go_simp
    try with_reducible rfl
  simp only [Act.put, List.setIfInBounds_toArray, List.set_cons_succ, List.set_cons_zero]
  refine' wpAnyH_take (i := 5) ?h1x5p ?hsx5p ?hfx5p ?hrx5p ?hQx5p (Or.inl ⟨?hwx5p, ?hyx5p⟩) hS ?restx5p
  case h1x5p => (simp only [List.getElem?_toArray, List.getElem?_cons_succ, List.getElem?_cons_zero]; rfl)
  case hsx5p => kernel_rfl
  case hfx5p => kernel_rfl
  case hrx5p => kernel_rfl
  case hQx5p => exact fun _ _ _ h => h
  case hwx5p => rfl
  case hyx5p =>
    intro W hW
    have cs := (R2.out.below hW).str
    go_simp
    try with_reducible rfl
  simp only [Act.put, List.setIfInBounds_toArray, List.set_cons_succ, List.set_cons_zero]
  refine' wpAnyH_take (i := 6) ?h1x6p ?hsx6p ?hfx6p ?hrx6p ?hQx6p (Or.inl ⟨?hwx6p, ?hyx6p⟩) hS ?restx6p
  case h1x6p => (simp only [List.getElem?_toArray, List.getElem?_cons_succ, List.getElem?_cons_zero]; rfl)
  case hsx6p => kernel_rfl
  case hfx6p => kernel_rfl
  case hrx6p => kernel_rfl
  case hQx6p => exact fun _ _ _ h => h
  case hwx6p => rfl
  case hyx6p =>
    intro W hW
    go_simp
    try with_reducible rfl
  simp only [Act.put, List.setIfInBounds_toArray, List.set_cons_succ, List.set_cons_zero]
  refine' wpAnyH_take (i := 7) ?h1x7p ?hsx7p ?hfx7p ?hrx7p ?hQx7p (Or.inl ⟨?hwx7p, ?hyx7p⟩) hS ?restx7p
  case h1x7p => (simp only [List.getElem?_toArray, List.getElem?_cons_succ, List.getElem?_cons_zero]; rfl)
  case hsx7p => kernel_rfl
  case hfx7p => kernel_rfl
  case hrx7p => kernel_rfl
  case hQx7p => exact fun _ _ _ h => h
  case hwx7p => rfl
  case hyx7p =>
    intro W hW
    go_simp
    try with_reducible rfl
  simp only [Act.put, List.setIfInBounds_toArray, List.set_cons_succ, List.set_cons_zero]
  refine' wpAnyH_take (i := 8) ?h1x8p ?hsx8p ?hfx8p ?hrx8p ?hQx8p (Or.inl ⟨?hwx8p, ?hyx8p⟩) hS ?restx8p
  case h1x8p => (simp only [List.getElem?_toArray, List.getElem?_cons_succ, List.getElem?_cons_zero]; rfl)
  case hsx8p => kernel_rfl
  case hfx8p => kernel_rfl
  case hrx8p => kernel_rfl
  case hQx8p => exact fun _ _ _ h => h
  case hwx8p => rfl
  case hyx8p =>
    intro W hW
    go_simp
    try with_reducible rfl
  simp only [Act.put, List.setIfInBounds_toArray, List.set_cons_succ, List.set_cons_zero]
  refine' wpAnyH_take (i := 9) ?h1x9p ?hsx9p ?hfx9p ?hrx9p ?hQx9p (Or.inl ⟨?hwx9p, ?hyx9p⟩) hS ?restx9p
  case h1x9p => (simp only [List.getElem?_toArray, List.getElem?_cons_succ, List.getElem?_cons_zero]; rfl)
  case hsx9p => kernel_rfl
  case hfx9p => kernel_rfl
  case hrx9p => kernel_rfl
  case hQx9p => exact fun _ _ _ h => h
  case hwx9p => rfl
  case hyx9p =>
    intro W hW
    go_simp
    try with_reducible rfl
  simp only [Act.put, List.setIfInBounds_toArray, List.set_cons_succ, List.set_cons_zero]
  refine' wpAnyH_take (i := 10) ?h1x10p ?hsx10p ?hfx10p ?hrx10p ?hQx10p (Or.inl ⟨?hwx10p, ?hyx10p⟩) hS ?restx10p
  case h1x10p => (simp only [List.getElem?_toArray, List.getElem?_cons_succ, List.getElem?_cons_zero]; rfl)
  case hsx10p => kernel_rfl
  case hfx10p => kernel_rfl
  case hrx10p => kernel_rfl
  case hQx10p => exact fun _ _ _ h => h
  case hwx10p => rfl
  case hyx10p =>
    intro W hW
    go_simp
    try with_reducible rfl
  simp only [Act.put, List.setIfInBounds_toArray, List.set_cons_succ, List.set_cons_zero]
  refine' wpAnyH_take (i := 11) ?h1x11p ?hsx11p ?hfx11p ?hrx11p ?hQx11p (Or.inl ⟨?hwx11p, ?hyx11p⟩) hS ?restx11p
  case h1x11p => (simp only [List.getElem?_toArray, List.getElem?_cons_succ, List.getElem?_cons_zero]; rfl)
  case hsx11p => kernel_rfl
  case hfx11p => kernel_rfl
  case hrx11p => kernel_rfl
  case hQx11p => exact fun _ _ _ h => h
  case hwx11p => rfl
  case hyx11p =>
    intro W hW
    go_simp
    try with_reducible rfl
  simp only [Act.put, List.setIfInBounds_toArray, List.set_cons_succ, List.set_cons_zero]
  refine' wpAnyH_take (i := 12) ?h1x12p ?hsx12p ?hfx12p ?hrx12p ?hQx12p (Or.inl ⟨?hwx12p, ?hyx12p⟩) hS ?restx12p
  case h1x12p => (simp only [List.getElem?_toArray, List.getElem?_cons_succ, List.getElem?_cons_zero]; rfl)
  case hsx12p => kernel_rfl
  case hfx12p => kernel_rfl
  case hrx12p => kernel_rfl
  case hQx12p => exact fun _ _ _ h => h
  case hwx12p => rfl
  case hyx12p =>
    intro W hW
    go_simp
    try with_reducible rfl
  simp only [Act.put, List.setIfInBounds_toArray, List.set_cons_succ, List.set_cons_zero]
  refine' wpAnyH_take (i := 13) ?h1x13p ?hsx13p ?hfx13p ?hrx13p ?hQx13p (Or.inl ⟨?hwx13p, ?hyx13p⟩) hS ?restx13p
  case h1x13p => (simp only [List.getElem?_toArray, List.getElem?_cons_succ, List.getElem?_cons_zero]; rfl)
  case hsx13p => kernel_rfl
  case hfx13p => kernel_rfl
  case hrx13p => kernel_rfl
  case hQx13p => exact fun _ _ _ h => h
  case hwx13p => rfl
  case hyx13p =>
    intro W hW
    go_simp
    try with_reducible rfl
  simp only [Act.put, List.setIfInBounds_toArray, List.set_cons_succ, List.set_cons_zero]
  refine' wpAnyH_take (i := 14) ?h1x14p ?hsx14p ?hfx14p ?hrx14p ?hQx14p (Or.inl ⟨?hwx14p, ?hyx14p⟩) hS ?restx14p
  case h1x14p => (simp only [List.getElem?_toArray, List.getElem?_cons_succ, List.getElem?_cons_zero]; rfl)
  case hsx14p => kernel_rfl
  case hfx14p => kernel_rfl
  case hrx14p => kernel_rfl
  case hQx14p => exact fun _ _ _ h => h
  case hwx14p => rfl
  case hyx14p =>
    intro W hW
    go_simp
    try with_reducible rfl
  simp only [Act.put, List.setIfInBounds_toArray, List.set_cons_succ, List.set_cons_zero]
  refine' wpAnyH_take (i := 15) ?h1x15p ?hsx15p ?hfx15p ?hrx15p ?hQx15p (Or.inl ⟨?hwx15p, ?hyx15p⟩) hS ?restx15p
  case h1x15p => (simp only [List.getElem?_toArray, List.getElem?_cons_succ, List.getElem?_cons_zero]; rfl)
  case hsx15p => kernel_rfl
  case hfx15p => kernel_rfl
  case hrx15p => kernel_rfl
  case hQx15p => exact fun _ _ _ h => h
  case hwx15p => rfl
  case hyx15p =>
    intro W hW
    have cs := (RD.out.below hW).str
    go_simp
    try with_reducible rfl
  simp only [Act.put, List.setIfInBounds_toArray, List.set_cons_succ, List.set_cons_zero]
  refine' wpAnyH_take (i := 16) ?h1x16p ?hsx16p ?hfx16p ?hrx16p ?hQx16p (Or.inl ⟨?hwx16p, ?hyx16p⟩) hS ?restx16p
  case h1x16p => (simp only [List.getElem?_toArray, List.getElem?_cons_succ, List.getElem?_cons_zero]; rfl)
  case hsx16p => kernel_rfl
  case hfx16p => kernel_rfl
  case hrx16p => kernel_rfl
  case hQx16p => exact fun _ _ _ h => h
  case hwx16p => rfl
  case hyx16p =>
    intro W hW
    go_simp
    try with_reducible rfl
  simp only [Act.put, List.setIfInBounds_toArray, List.set_cons_succ, List.set_cons_zero]
  refine' wpAnyH_take (i := 17) ?h1x17p ?hsx17p ?hfx17p ?hrx17p ?hQx17p (Or.inl ⟨?hwx17p, ?hyx17p⟩) hS ?restx17p
  case h1x17p => (simp only [List.getElem?_toArray, List.getElem?_cons_succ, List.getElem?_cons_zero]; rfl)
  case hsx17p => kernel_rfl
  case hfx17p => kernel_rfl
  case hrx17p => kernel_rfl
  case hQx17p => exact fun _ _ _ h => h
  case hwx17p => rfl
  case hyx17p =>
    intro W hW
    go_simp
    try with_reducible rfl
  simp only [Act.put, List.setIfInBounds_toArray, List.set_cons_succ, List.set_cons_zero]
  refine' wpAnyH_take (i := 18) ?h1x18p ?hsx18p ?hfx18p ?hrx18p ?hQx18p (Or.inl ⟨?hwx18p, ?hyx18p⟩) hS ?restx18p
  case h1x18p => (simp only [List.getElem?_toArray, List.getElem?_cons_succ, List.getElem?_cons_zero]; rfl)
  case hsx18p => kernel_rfl
  case hfx18p => kernel_rfl
  case hrx18p => kernel_rfl
  case hQx18p => exact fun _ _ _ h => h
  case hwx18p => rfl
  case hyx18p =>
    intro W hW
    have cs := (HN.out.below (B4.out.trans (hW.mono B4.out.size))).str
    go_simp
    try with_reducible rfl
  simp only [Act.put, List.setIfInBounds_toArray, List.set_cons_succ, List.set_cons_zero]
  refine' wpAnyH_take (i := 19) ?h1x19p ?hsx19p ?hfx19p ?hrx19p ?hQx19p (Or.inl ⟨?hwx19p, ?hyx19p⟩) hS ?restx19p
  case h1x19p => (simp only [List.getElem?_toArray, List.getElem?_cons_succ, List.getElem?_cons_zero]; rfl)
  case hsx19p => kernel_rfl
  case hfx19p => kernel_rfl
  case hrx19p => kernel_rfl
  case hQx19p => exact fun _ _ _ h => h
  case hwx19p => rfl
  case hyx19p =>
    intro W hW
    go_simp
    try with_reducible rfl
  simp only [Act.put, List.setIfInBounds_toArray, List.set_cons_succ, List.set_cons_zero]
  refine wpAnyH_ready (rs := [20]) (by kernel_rfl) (by simp) ?_
  refine' AllReadyH.cons ?hoc20p (fun K hK => ?stc20p) AllReadyH.nil
  case hoc20p => (simp only [List.getElem?_toArray, List.getElem?_cons_succ, List.getElem?_cons_zero]; rfl)
  go_simp
  refine (DD.out _ _ (SEEK.out _ (C4.out.trans (hS.mono C4.out.size)))).mono ?_
  rintro e w5 ⟨x5, c5, rfl, ho5, hb⟩
  go_wp2_with fail
  refine hK.out _ _ (hS.trans (hb.mono hS.size)) (fun hHeld => ?_)
  clear hK K
  try simp only [Act.put, List.setIfInBounds_toArray, List.set_cons_succ, List.set_cons_zero]
  have B45 := Lib.hid hHeld
  refine more (S' := fun W => Below w5.heap.size w5 W) (fun W hW => B45.out.trans (hW.mono B45.out.size)) _ _ _ _ ?_
  have RS5 := Lib.hid ho5.sees
  have B05 : Hid (Below w.heap.size w w5) := B4.out.trans (B45.out.mono B4.out.size)
  clear ho5
  clear hS hb hHeld
  have hS : Below w5.heap.size w5 w5 := Below.refl _ _
  refine' wpAnyH_take (i := 21) ?h1x21p ?hsx21p ?hfx21p ?hrx21p ?hQx21p (Or.inl ⟨?hwx21p, ?hyx21p⟩) hS ?restx21p
  case h1x21p => (simp only [List.getElem?_toArray, List.getElem?_cons_succ, List.getElem?_cons_zero]; rfl)
  case hsx21p => kernel_rfl
  case hfx21p => kernel_rfl
  case hrx21p => kernel_rfl
  case hQx21p => exact fun _ _ _ h => h
  case hwx21p => rfl
  case hyx21p =>
    intro W hW
    have cs := (RS5.out.below hW).str
    go_simp
    try with_reducible rfl
  simp only [Act.put, List.setIfInBounds_toArray, List.set_cons_succ, List.set_cons_zero]
  refine' wpAnyH_take (i := 22) ?h1x22p ?hsx22p ?hfx22p ?hrx22p ?hQx22p (Or.inl ⟨?hwx22p, ?hyx22p⟩) hS ?restx22p
  case h1x22p => (simp only [List.getElem?_toArray, List.getElem?_cons_succ, List.getElem?_cons_zero]; rfl)
  case hsx22p => kernel_rfl
  case hfx22p => kernel_rfl
  case hrx22p => kernel_rfl
  case hQx22p => exact fun _ _ _ h => h
  case hwx22p => rfl
  case hyx22p =>
    intro W hW
    go_simp
    try with_reducible rfl
  simp only [Act.put, List.setIfInBounds_toArray, List.set_cons_succ, List.set_cons_zero]
  refine' wpAnyH_take (i := 23) ?h1x23p ?hsx23p ?hfx23p ?hrx23p ?hQx23p (Or.inl ⟨?hwx23p, ?hyx23p⟩) hS ?restx23p
  case h1x23p => (simp only [List.getElem?_toArray, List.getElem?_cons_succ, List.getElem?_cons_zero]; rfl)
  case hsx23p => kernel_rfl
  case hfx23p => kernel_rfl
  case hrx23p => kernel_rfl
  case hQx23p => exact fun _ _ _ h => h
  case hwx23p => rfl
  case hyx23p =>
    intro W hW
    go_simp
    try with_reducible rfl
  simp only [Act.put, List.setIfInBounds_toArray, List.set_cons_succ, List.set_cons_zero]
  refine' wpAnyH_take (i := 24) ?h1x24p ?hsx24p ?hfx24p ?hrx24p ?hQx24p (Or.inl ⟨?hwx24p, ?hyx24p⟩) hS ?restx24p
  case h1x24p => (simp only [List.getElem?_toArray, List.getElem?_cons_succ, List.getElem?_cons_zero]; rfl)
  case hsx24p => kernel_rfl
  case hfx24p => kernel_rfl
  case hrx24p => kernel_rfl
  case hQx24p => exact fun _ _ _ h => h
  case hwx24p => rfl
  case hyx24p =>
    intro W hW
    go_simp
    try with_reducible rfl
  simp only [Act.put, List.setIfInBounds_toArray, List.set_cons_succ, List.set_cons_zero]
  refine wpAnyH_done (by kernel_rfl) ?_ _
  go_wp2_with fail
  go_ret
  exact ⟨rfl, B05.out.trans (hS.mono B05.out.size)⟩
theorem walkI (key name : List Int) (vn : Value) (n num : Int) (w : World) (hG : Glob w) (hk : Byt key) (lk : key.length = 32) (hn : Sees w vn name) (hnum : 0 ≤ num ∧ num ≤ 18446744073709551615) : Calls Tryd.prog 8 #[.agg (bcells key), vn, .int .i64 n, .int .u64 num] w fun e w' => e = .returned (.bool true) ∧ Below w.heap.size w w' := by
  by_cases h0 : (100 : Int) < name.length
  · exact great1 key name vn n num w hG hk lk hn hnum h0
  · by_cases h1 : n ≤ 300
    · exact walk1 key name vn n num w hG hk lk hn hnum (by omega) h1
    · by_cases h2 : n ≤ 8160
      · exact great2 key name vn n num w hG hk lk hn hnum h0 (by omega) h2
      · exact walk2 key name vn n num w hG hk lk hn hnum (by omega) (by omega)

set_option maxRecDepth 100000 in
theorem lifted (os : Os) (started : os.Started) (H : Type) (enc : TypeId × Value → H) :
    ReturnsInHanded {} Tryd.checked os 8 .any (fun w args => (Rows.hmacStreamsSpec.pre enc Tryd.prog Tryd.f8 [] false w args ∧ laidMetH Tryd.prog laid2 w) ∧ sizedMet enc Tryd.prog Tryd.f8 (OpenSpec.ofChange Rows.hmacStreamsSpec) false w args)
      (Rows.hmacStreamsSpec.post enc Tryd.prog Tryd.f8 false true false false) := by
  refine returnsInHanded_of_change_and (C := Tryd.checked) (X := fun w _ => laidMetH Tryd.prog laid2 w) (fun _ _ _ hh h => h.of_heap hh) own started (by kernel_rfl) Tryd.func8
    (ChangeSpec.witness_shaped (enc := enc) (C := Tryd.checked) (os := os) (X := fun w _ => laidMetH Tryd.prog laid2 w) false (World.doorLaid Tryd.prog 400 os) #[.agg (bcells (List.replicate 32 0)), .slice none 0 0, .int .i64 0, .int .u64 0] 8 rfl (World.shaped_of_RefB (by kernel_rfl) (by kernel_rfl)) (by kernel_rfl) (by kernel_rfl) (by kernel_rfl) (door_met os _)) ?_
  intro W base args ds gs before hval0 hW _ _ hL _
  have hval : ∀ (j : Nat) t v, Tryd.f8.params[j]? = some t → args[j]? = some v → Value.okWide Tryd.prog W .any base t v := hval0
  have hW' := hW
  obtain ⟨p, q, hA0, hV, rfl, hfz, hnd⟩ := hW
  have hA : DataW.TrodAll enc Tryd.prog W 0 (fun _ => true) true Tryd.f8.params.toList args.toList ds p := hA0
  rw [Tryd.params8] at hA hval
  obtain ⟨v0, vs0, d0, ds0, p0, q0, hargs, rfl, rfl, h0, r0⟩ := trodAll_cons hA
  obtain ⟨v1, vs1, d1, ds1, p1, q1, rfl, rfl, rfl, h1, r1⟩ := trodAll_cons r0
  obtain ⟨v2, vs2, d2, ds2, p2, q2, rfl, rfl, rfl, h2, r2⟩ := trodAll_cons r1
  obtain ⟨v3, vs3, d3, ds3, p3, q3, rfl, rfl, rfl, h3, r3⟩ := trodAll_cons r2
  obtain ⟨rfl, rfl, rfl⟩ := trodAll_nil r3
  obtain rfl : args = #[v0, v1, v2, v3] := by cases args; simp_all
  obtain ⟨rfl, rfl⟩ := trodVars_none hV
  obtain ⟨x0, rfl, s0, l0⟩ := open_key (hval 0 48 v0 rfl rfl) h0
  obtain ⟨x1, s1⟩ := open_sees (hval 1 22 v1 rfl rfl) h1
  obtain ⟨a2, rfl, rfl, rfl, w2⟩ := open_int Tryd.underlying3 (hval 2 3 v2 rfl rfl) h2
  have b2 := bounds_i64 w2
  obtain ⟨a3, rfl, rfl, rfl, w3⟩ := open_int Tryd.underlying42 (hval 3 42 v3 rfl rfl) h3
  have b3 := bounds_u64 w3
  refine (walkI x0 x1 v1 a2 a3 W (of_laid hL) s0 l0 s1 b3).mono fun e W' ⟨he, hb⟩ => ?_
  subst he
  exact ⟨_, rfl, law_post hW' rfl rfl rfl (by kernel_rfl) hb⟩
/-- The row's statement. -/
theorem row_holds : Rows.HmacStreamsSaid :=
  OpenClaim.holds_of_wide 8 Tryd.f8 rfl rfl rfl rfl rfl rfl rfl ⟨rfl, rfl, rfl, rfl, rfl⟩ rfl rfl rfl rfl rfl (by kernel_rfl) Tryd.func8 (by kernel_rfl)
    (of_decide_eq_true (by kernel_rfl)) (by unfold Func.isWrapper; first | (rw [if_pos (by decide +kernel)]; kernel_rfl) | (rw [if_neg (by decide +kernel)]; exact ⟨rfl, rfl⟩))
    (fun os started H enc _ => lifted os started H enc)
/-- The tied card. -/
theorem proved : Rows.HmacStreamsCardSaid :=
  Claim7.holds_tied_plain_at .later [] [.data, .data] true (true, "c1a692658ed27d6b705437531a4023b4f004fc9067d80523147904b9ccf5c916") false
    row_holds (fun _ h => by cases h) (by kernel_rfl) (fun _ h => by cases h) hmacStreams_row_tie rfl ⟨rfl, rfl⟩ (by kernel_rfl) rfl
    (fun f fn hf hfn => by
      obtain rfl : f = 8 := Option.some.inj ((show Tryd.prog.funcNamed "casemate/casematelaw03.HmacStreams" = some 8 by kernel_rfl).symm.trans hf) |>.symm
      obtain rfl : fn = Tryd.f8 := (Option.some.inj (Tryd.func8.symm.trans hfn)).symm
      exact ⟨by kernel_rfl, fun j t ht => by
        rw [Tryd.params8] at ht
        have hm : t ∈ [48, 22, 3, 42] := by simpa using Array.mem_of_getElem? ht
        have hall : ([48, 22, 3, 42].all fun u => !Tryd.prog.wantsStandIn u) = true := by kernel_rfl
        exact (show Tryd.prog.wantsStandIn t = false by simpa using List.all_eq_true.1 hall t hm)⟩)
    (by kernel_rfl)
#print axioms proved
end Go.Proofs.YtmkaagiabafooaaDoor.hmacStreams
