/-
  For all keys, names and numbers the law HmacBegins of package casematelaw03 returns true, and what came in reads afterwards as before: fewer bytes of a stream are a beginning of more; its first 32 are the mark of the name and 1. Condition: the two tables of package sha read, when the call begins, as their declarations lay them (the card ties that to the program's text).
-/
import Derived.Test.YtmkaagiabafooaaDoorBegA
import Derived.Test.YtmkaagiabafooaaDoorLaid
import Derived.Deep.RegionHeld
namespace Go.Proofs.YtmkaagiabafooaaDoor.hmacBegins
open Go.ChangeShapes Go.WideShapes Go.ChangeAt Go.RowKit
theorem und22 : Tryd.prog.underlying 22 = some (.slice (Tryd.prog.elem 22)) := by kernel_rfl
/-- 'b[:n]' of a slice that reads as bytes. -/
theorem cut_h {w : World} {x : Option Addr} {cap l : Nat} {xs : List Int} (h : Sees w (.slice x l cap) xs) (hxl : xs.length = l) (n : Nat) (hn : n ≤ l) :
    ∃ y c, (∀ W, (Instr.slice 22 (.slice x l cap) none (some (.int .i64 n)) none).run Tryd.prog W = .ok (.slice y n c) W) ∧ Sees w (.slice y n c) (xs.take n) := by
  subst hxl
  have hc : xs.length ≤ cap := by
    obtain ⟨_, ⟨e, e2⟩ | ⟨_, _, e, e2, _⟩ | ⟨_, _, _, e, _, h1, _⟩⟩ := h
    · subst e2; simp
    · subst e2; simp
    · simp only [Value.slice.injEq] at e; omega
  have hrun : ∀ W, (Instr.slice 22 (.slice x xs.length cap) none (some (.int .i64 n)) none).run Tryd.prog W = .ok (sliced x 0 n cap 1) W := fun W => by
    rw [run_slice_h W 22 x xs.length cap und22 .i64 n (by omega) (by omega), size5']
    simp only [Result.andThen, Int.toNat_natCast]
  have e : sliced x 0 n cap 1 = .slice (if cap = 0 then x else x.map (·.add (0 * 1))) n cap := by
    unfold sliced; rw [Nat.sub_zero, Nat.sub_zero]
  rw [e] at hrun
  refine ⟨_, _, hrun, h.1.take n, ?_⟩
  have hlen : (xs.take n).length = n := by rw [List.length_take]; omega
  obtain ⟨_, ⟨e1, e2⟩ | ⟨a, c', e1, e2, hm⟩ | ⟨b, o, c', e1, h0, hl, hm, hcell⟩⟩ := h
  · simp only [Value.slice.injEq] at e1
    obtain ⟨rfl, _, rfl⟩ := e1
    subst e2
    obtain rfl : n = 0 := by simpa using hn
    exact .inl ⟨rfl, rfl⟩
  · simp only [Value.slice.injEq] at e1
    obtain ⟨rfl, _, rfl⟩ := e1
    subst e2
    obtain rfl : n = 0 := by simpa using hn
    by_cases hz : cap = 0
    · rw [if_pos hz]; exact .inr (.inl ⟨a, _, rfl, rfl, hm⟩)
    · rw [if_neg hz]; exact .inr (.inl ⟨_, _, rfl, rfl, hm⟩)
  · simp only [Value.slice.injEq] at e1
    obtain ⟨rfl, _, rfl⟩ := e1
    by_cases hz : n = 0
    · subst hz
      by_cases hz2 : cap = 0
      · rw [if_pos hz2]; exact .inr (.inl ⟨_, _, rfl, List.take_zero, hm⟩)
      · rw [if_neg hz2]; exact .inr (.inl ⟨_, _, rfl, List.take_zero, hm⟩)
    · rw [if_neg (by omega)]
      refine .inr (.inr ⟨b, o, cap, ?_, ?_, ?_, hm, ?_⟩)
      · rw [hlen]; simp [addr_add]
      · intro e; rw [e] at hlen; simp at hlen; omega
      · rw [hlen]; omega
      · intro i hi
        rw [hlen] at hi
        rw [hcell i (by omega)]
        simp [nth, List.getD, List.getElem?_take_of_lt hi]
theorem u48 : Tryd.prog.underlying 48 = some (.array 32 5) := by kernel_rfl
/-- A key that came in. -/
theorem open_key {H : Type} {enc : TypeId × Value → H} {w : World} {r : Reach} {b0 base : Nat} {v : Value} {d : DataW H} {ps : List MemPlace}
    (hval : Value.okWide Tryd.prog w r b0 48 v) (hd : DataW.Trod enc Tryd.prog w base (fun _ => true) true 48 v d ps) : ∃ xs, v = .agg (bcells xs) ∧ Byt xs ∧ xs.length = 32 := by
  simp only [Value.okWide, u48] at hval
  obtain ⟨cs, rfl, hsz, _⟩ := hval
  obtain ⟨fuel, hf⟩ := hd
  have hf' : DataW.trod enc Tryd.prog w base (fun _ => true) true fuel 48 cs.toList = some (d, ps) := hf
  obtain ⟨ds, m, rfl, hx, hlen, hn, hel⟩ := DataW.trod_array u48 hf'
  have hl32 : cs.toList.length = 32 := by rw [hlen]; kernel_rfl
  have hone : Tryd.prog.cellsOf 5 = 1 := by kernel_rfl
  have hc : ∀ j, (hj : j < 32) → ∃ n : Int, cs.toList[j]? = some (.int .u8 n) ∧ 0 ≤ n ∧ n ≤ 255 := by
    intro j hj
    have h1 := hel j hj
    rw [hone, Nat.mul_one] at h1
    rw [List.getElem?_eq_getElem (show j < ds.length by omega)] at h1
    obtain ⟨k, e1, _, wf⟩ := DataW.trod_int Tryd.underlying5 h1
    have h2 : ((cs.toList.drop j).take 1)[0]? = some (.int .u8 k) := by rw [e1]; rfl
    rw [List.getElem?_take_of_lt (by omega), List.getElem?_drop, Nat.add_zero] at h2
    exact ⟨k, h2, bounds_u8 wf⟩
  refine ⟨cs.toList.map intOf, ?_, ?_, by rw [List.length_map, hl32]⟩
  · congr 1
    apply Array.toList_inj.1
    unfold bcells
    rw [List.map_map]
    apply List.ext_getElem?
    intro j
    by_cases hj : j < 32
    · obtain ⟨n, e, _⟩ := hc j hj
      simp [List.getElem?_map, e, intOf]
    · rw [List.getElem?_eq_none (by omega), List.getElem?_eq_none (by simp at hl32 ⊢; omega)]
  · intro x hx
    obtain ⟨v, hv, rfl⟩ := List.mem_map.1 hx
    obtain ⟨j, hj, rfl⟩ := List.mem_iff_getElem.1 hv
    obtain ⟨n, e, h0, h1⟩ := hc j (by omega)
    rw [List.getElem?_eq_getElem hj, Option.some.injEq] at e
    rw [e]
    exact ⟨h0, h1⟩
set_option maxRecDepth 100000 in
set_option maxHeartbeats 4000000 in
theorem walk_great (CK : Array Value) (vn : Value) (name : List Int) (n m : Int) (w : World) (hG : Glob w) (hn : Sees w vn name) (h : 300 < name.length ∨ n < 0 ∨ m < n ∨ 500 < m) :
    Calls Tryd.prog 10 #[.agg CK, vn, .int .i64 n, .int .i64 m] w fun e w' => e = .returned (.bool true) ∧ Below w.heap.size w w' := by
  obtain ⟨x1, c1, rfl, l1⟩ := hn.form
  have h2w : 2 ≤ w.heap.size := by have := hG.lt; omega
  have B0 := Lib.hid (alloc_below w (.cells CK 48))
  have AL := Lib.hid (alivc (w.alloc (.cells CK 48)) (hG.below (alloc_below w _) h2w))
  clear hn hG h2w
  by_cases t0 : (300 : Int) < name.length
  · skip
    go_enter Tryd.func10, Tryd.ntmps10
    go_wp2_with fail
    refine AL.out.mono ?_
    rintro e w1 ⟨rfl, hb⟩
    have HB := Lib.hid hb
    clear hb
    go_wp2_with fail
    go_ret
    exact ⟨rfl, B0.out.trans (HB.out.mono B0.out.size)⟩
  · skip
    by_cases t1 : n < 0
    · skip
      go_enter Tryd.func10, Tryd.ntmps10
      go_wp2_with fail
      refine AL.out.mono ?_
      rintro e w1 ⟨rfl, hb⟩
      have HB := Lib.hid hb
      clear hb
      go_wp2_with fail
      go_ret
      exact ⟨rfl, B0.out.trans (HB.out.mono B0.out.size)⟩
    · skip
      by_cases t2 : m < n
      · skip
        go_enter Tryd.func10, Tryd.ntmps10
        go_wp2_with fail
        refine AL.out.mono ?_
        rintro e w1 ⟨rfl, hb⟩
        have HB := Lib.hid hb
        clear hb
        go_wp2_with fail
        go_ret
        exact ⟨rfl, B0.out.trans (HB.out.mono B0.out.size)⟩
      · skip
        have t3 : 500 < m := by omega
        go_enter Tryd.func10, Tryd.ntmps10
        go_wp2_with fail
        refine AL.out.mono ?_
        rintro e w1 ⟨rfl, hb⟩
        have HB := Lib.hid hb
        clear hb
        go_wp2_with fail
        go_ret
        exact ⟨rfl, B0.out.trans (HB.out.mono B0.out.size)⟩
set_option maxRecDepth 100000 in
set_option maxHeartbeats 8000000 in
theorem walk (key name : List Int) (vn : Value) (n m : Nat) (w : World) (hG : Glob w) (hk : Byt key) (lk : key.length = 32) (hn : Sees w vn name) (ln : name.length ≤ 300) (h1 : n ≤ m) (h2 : m ≤ 500) :
    Calls Tryd.prog 10 #[.agg (bcells key), vn, .int .i64 n, .int .i64 m] w fun e w' => e = .returned (.bool true) ∧ Below w.heap.size w w' := by
  obtain ⟨x1, c1, rfl, l1⟩ := id hn.form
  have z27 := zv27
  obtain ⟨Z27, hZ27⟩ : ∃ Z, Z = bcells (List.replicate 32 0) := ⟨_, rfl⟩
  rw [← hZ27] at z27
  have h2w : 2 ≤ w.heap.size := by have := hG.lt; omega
  have EX : Hid (∀ W k, k ≤ 8160 → Glob W → Sees W (.slice x1 name.length c1) name → Calls Tryd.prog 26 #[.agg (bcells key), .slice x1 name.length c1, .int .i64 ((k : Nat) : Int)] W fun e w' => ∃ q cap, e = .returned (.tuple #[.slice q k cap, .int .i64 0]) ∧ Sees w' (.slice q k cap) (strm key name k) ∧ Below W.heap.size W w') := fun W k h3 hg h4 => expand_ok key name _ k h3 W hk lk h4 (by omega) hg
  have EX32 : Hid (∀ W, Glob W → Sees W (.slice x1 name.length c1) name → Calls Tryd.prog 26 #[.agg (bcells key), .slice x1 name.length c1, .int .i64 32] W fun e w' => ∃ q cap, e = .returned (.tuple #[.slice q 32 cap, .int .i64 0]) ∧ Sees w' (.slice q 32 cap) (strm key name 32) ∧ Below W.heap.size W w') := fun W hg h4 => expand_ok key name _ 32 (by omega) W hk lk h4 (by omega) hg
  have MK : Hid (∀ W g vt, Glob W → Sees W (.slice (some ⟨g, 0, none⟩) 32 32) key → Sees W vt (name ++ [1]) → Calls Tryd.prog 22 #[.slice (some ⟨g, 0, none⟩) 32 32, vt] W fun e w' => e = .returned (.agg (bcells (strm key name 32))) ∧ Below W.heap.size W w') := fun W g vt hg h3 h4 => by
    have h := macc _ _ _ _ W h3 h4 (by omega) (by simp; omega) hg
    have e := strm_at key name hk 0 32 (by omega) (by omega)
    rw [show 32 * 0 + 32 = 32 from rfl, List.take_of_length_le (by rw [tpart_len key name hk]; exact Nat.le_refl _)] at e
    rw [e]
    exact h
  have lF : (strm key name 32).length = 32 := strm_len key name hk 32 (by omega)
  have bF := strm_byt key name 32
  generalize strm key name 32 = F at EX32 MK lF bF
  have TK : Hid ((strm key name m).take n = strm key name n) := by
    show _ = _
    unfold strm; rw [List.take_take, Nat.min_eq_left h1]
  have LN := Lib.hid (show (strm key name n).length = n from strm_len key name hk n (by omega))
  have LM := Lib.hid (show (strm key name m).length = m from strm_len key name hk m (by omega))
  have hB0 : Below w.heap.size w (w.alloc (.cells (bcells key) 48)) := alloc_below w _
  have K0 := Lib.hid (heap_alloc_new w (.cells (bcells key) 48))
  have I0 := Lib.hid (i48' key lk)
  have ka := key_all
  have HK := Lib.hid hk
  have LK := Lib.hid lk
  have LNM := Lib.hid ln
  have HN := Lib.hid hn
  have HGL := Lib.hid hG
  have H2W := Lib.hid h2w
  have HZ := Lib.hid hZ27
  obtain ⟨CK, hCK⟩ : ∃ C, C = bcells key := ⟨_, rfl⟩
  have HCK := Lib.hid hCK
  rw [← hCK] at EX EX32 hB0 K0 I0
  rw [← hCK]
  have B0 := Lib.hid hB0
  have HNM := Lib.hid (And.intro h1 h2)
  have t1 : ¬ (300 : Int) < name.length := by omega
  have t2 : ¬ ((n : Int) < 0) := by omega
  have t3 : ¬ ((m : Int) < n) := by omega
  have t4 : ¬ (500 < (m : Int)) := by omega
  clear hG h2w hZ27 hk lk hn ln hB0 hCK h1 h2
  go_enter Tryd.func10, Tryd.ntmps10
  go_wp2_with (refine wpList_load_row rfl 48 (.tmp 4) rfl w.heap.size rfl 48 CK (0, 0) _ K0.out und48 rfl I0.out ?_)
  refine (EX.out _ n (by have := HNM.out; omega) (HGL.out.below B0.out H2W.out) (HN.out.below B0.out)).mono ?_
  rintro e w1 ⟨qa, ca, rfl, sa, hb⟩
  have B1 : Hid (Below w.heap.size w w1) := B0.out.trans (hb.mono B0.out.size)
  have K1 : Hid (w1.heap[w.heap.size]? = some (.cells CK 48 (0, 0))) := by show _ = _; rw [hb.block _ (blk_lt K0.out)]; exact K0.out
  have SA1 := Lib.hid sa
  clear hb sa
  go_wp2_with (refine wpList_load_row rfl 48 (.tmp 4) rfl w.heap.size rfl 48 CK (0, 0) _ K1.out und48 rfl I0.out ?_)
  refine (EX.out w1 m (by have := HNM.out; omega) (HGL.out.below B1.out H2W.out) (HN.out.below B1.out)).mono ?_
  rintro e w2 ⟨qb, cb, rfl, sb, hb⟩
  have B2 : Hid (Below w.heap.size w w2) := B1.out.trans (hb.mono B1.out.size)
  have K2 : Hid (w2.heap[w.heap.size]? = some (.cells CK 48 (0, 0))) := by show _ = _; rw [hb.block _ (blk_lt K1.out)]; exact K1.out
  have SA2 := Lib.hid (SA1.out.below hb)
  have SB2 := Lib.hid sb
  clear hb sb
  go_wp2_with (refine wpList_load_row rfl 48 (.tmp 4) rfl w.heap.size rfl 48 CK (0, 0) _ K2.out und48 rfl I0.out ?_)
  refine (EX32.out w2 (HGL.out.below B2.out H2W.out) (HN.out.below B2.out)).mono ?_
  rintro e w3 ⟨qc, cc, rfl, sc, hb⟩
  have B3 : Hid (Below w.heap.size w w3) := B2.out.trans (hb.mono B2.out.size)
  have K3 : Hid (w3.heap[w.heap.size]? = some (.cells CK 48 (0, 0))) := by show _ = _; rw [hb.block _ (blk_lt K2.out)]; exact K2.out
  have SA3 := Lib.hid (SA2.out.below hb)
  have SB3 := Lib.hid (SB2.out.below hb)
  have SC3 := Lib.hid sc
  clear hb sc B0 B1 B2 K0 K1 K2 SA1 SA2 SB2 EX EX32
  go_wp2_with fail
  rename_i K6 hK6
  have IF := Lib.hid (show (Tryd.prog.info? 27).map (·.size) = some (bcells (F)).size by rw [i27, bsize, lF])
  have ZF := Lib.hid (show (bcells (List.replicate 32 0)).size = (bcells (F)).size by rw [bsize, bsize, lF, List.length_replicate])
  have OF := Lib.hid (bone (F))
  have HKx : Hid (∀ u54 u56 u57 u58 g w', Below w3.heap.size w3 w' → Row27 w' g (F) → K6 { tmps := #[.agg CK, .slice x1 name.length c1, .int .i64 n, .int .i64 m, .pointer (some ⟨w.heap.size, 0, none⟩), undef, undef, undef, .bool false, .slice qa n ca, .int .i64 0, .slice qb m cb, .int .i64 0, .slice qc 32 cc, .int .i64 0, .pointer (some ⟨g, 0, none⟩), .slice x1 name.length c1, .int .i64 name.length, .bool false, .bool false, .int .i64 n, .bool false, .bool false, .bool false, .int .i64 m, .int .i64 n, .bool false, .bool false, .bool false, .int .i64 m, .bool false, .bool false, undef, .tuple #[.slice qa n ca, .int .i64 0], .agg CK, .slice x1 name.length c1, .int .i64 n, .tuple #[.slice qa n ca, .int .i64 0], .slice qa n ca, .int .i64 0, .tuple #[.slice qb m cb, .int .i64 0], .agg CK, .slice x1 name.length c1, .int .i64 m, .tuple #[.slice qb m cb, .int .i64 0], .slice qb m cb, .int .i64 0, .tuple #[.slice qc 32 cc, .int .i64 0], .agg CK, .slice x1 name.length c1, .tuple #[.slice qc 32 cc, .int .i64 0], .slice qc 32 cc, .int .i64 0, .slice (some ⟨w.heap.size, 0, none⟩) 32 32, u54, .slice x1 name.length c1, u56, u57, u58, .agg (bcells (F)), undef, undef, undef, undef, undef, undef, undef, undef, undef, undef, undef, undef, undef, undef, undef, undef, undef, undef, undef, undef, undef, undef, undef, undef, undef, undef, undef, undef, undef, undef, undef, undef, undef, undef, undef, undef, undef, undef, undef, undef, undef], defers := [] } w') := by
    intro u54 u56 u57 u58 g w' hb hr
    apply hK6
    clear hK6
    have B7 : Hid (Below w.heap.size w w') := B3.out.trans (hb.mono B3.out.size)
    have SA7 := Lib.hid (SA3.out.below hb)
    have SB7 := Lib.hid (SB3.out.below hb)
    have SC7 := Lib.hid (SC3.out.below hb)
    obtain ⟨y, cy, hcut, s88⟩ := cut_h SB7.out LM.out n HNM.out.1
    rw [TK.out] at s88
    have S88 := Lib.hid s88
    have SR := Lib.hid (hr.sees lF bF)
    have aa := arr32_all
    clear hb s88 hr SA3 SB3 SC3 K3 z27
    go_wp2_with fail
    refine wp_region_held_drew (S := fun W => Below w'.heap.size w' W) (by kernel_rfl) (Below.refl _ _).drew (fun hS => ?_)
    refine wpAnyH_ready (rs := [0]) (by kernel_rfl) (by simp) ?_
    refine' AllReadyH.cons ?hoc0z (fun K hK => ?stc0z) AllReadyH.nil
    case hoc0z => (simp only [List.getElem?_toArray, List.getElem?_cons_zero]; rfl)
    go_simp
    refine (alivc _ (HGL.out.below (B7.out.trans (hS.mono B7.out.size)) H2W.out)).mono ?_
    rintro e w8 ⟨rfl, hb⟩
    go_wp2_with fail
    refine hK.out _ _ (hS.trans (hb.mono hS.size)) (fun hHeld => ?_)
    clear hK K
    try simp only [Act.put, List.setIfInBounds_toArray, List.set_cons_succ, List.set_cons_zero]
    clear hS hb
    have hS := hHeld
    clear hHeld
    refine' wpAnyH_take (i := 1) ?h1x1z ?hsx1z ?hfx1z ?hrx1z ?hQx1z (Or.inl ⟨?hwx1z, ?hyx1z⟩) hS ?restx1z
    case h1x1z => (simp only [List.getElem?_toArray, List.getElem?_cons_succ, List.getElem?_cons_zero]; rfl)
    case hsx1z => kernel_rfl
    case hfx1z => kernel_rfl
    case hrx1z => kernel_rfl
    case hQx1z => exact fun _ _ _ h => h
    case hwx1z => rfl
    case hyx1z =>
      intro W hW
      go_simp
      try with_reducible rfl
    simp only [Act.put, List.setIfInBounds_toArray, List.set_cons_succ, List.set_cons_zero]
    refine' wpAnyH_take (i := 2) ?h1x2z ?hsx2z ?hfx2z ?hrx2z ?hQx2z (Or.inl ⟨?hwx2z, ?hyx2z⟩) hS ?restx2z
    case h1x2z => (simp only [List.getElem?_toArray, List.getElem?_cons_succ, List.getElem?_cons_zero]; rfl)
    case hsx2z => kernel_rfl
    case hfx2z => kernel_rfl
    case hrx2z => kernel_rfl
    case hQx2z => exact fun _ _ _ h => h
    case hwx2z => rfl
    case hyx2z =>
      intro W hW
      go_simp
      try with_reducible rfl
    simp only [Act.put, List.setIfInBounds_toArray, List.set_cons_succ, List.set_cons_zero]
    refine' wpAnyH_take (i := 3) ?h1x3z ?hsx3z ?hfx3z ?hrx3z ?hQx3z (Or.inl ⟨?hwx3z, ?hyx3z⟩) hS ?restx3z
    case h1x3z => (simp only [List.getElem?_toArray, List.getElem?_cons_succ, List.getElem?_cons_zero]; rfl)
    case hsx3z => kernel_rfl
    case hfx3z => kernel_rfl
    case hrx3z => kernel_rfl
    case hQx3z => exact fun _ _ _ h => h
    case hwx3z => rfl
    case hyx3z =>
      intro W hW
      go_simp
      try with_reducible rfl
    simp only [Act.put, List.setIfInBounds_toArray, List.set_cons_succ, List.set_cons_zero]
    refine' wpAnyH_take (i := 4) ?h1x4z ?hsx4z ?hfx4z ?hrx4z ?hQx4z (Or.inl ⟨?hwx4z, ?hyx4z⟩) hS ?restx4z
    case h1x4z => (simp only [List.getElem?_toArray, List.getElem?_cons_succ, List.getElem?_cons_zero]; rfl)
    case hsx4z => kernel_rfl
    case hfx4z => kernel_rfl
    case hrx4z => kernel_rfl
    case hQx4z => exact fun _ _ _ h => h
    case hwx4z => rfl
    case hyx4z =>
      intro W hW
      go_simp
      try with_reducible rfl
    simp only [Act.put, List.setIfInBounds_toArray, List.set_cons_succ, List.set_cons_zero]
    refine' wpAnyH_take (i := 5) ?h1x5z ?hsx5z ?hfx5z ?hrx5z ?hQx5z (Or.inl ⟨?hwx5z, ?hyx5z⟩) hS ?restx5z
    case h1x5z => (simp only [List.getElem?_toArray, List.getElem?_cons_succ, List.getElem?_cons_zero]; rfl)
    case hsx5z => kernel_rfl
    case hfx5z => kernel_rfl
    case hrx5z => kernel_rfl
    case hQx5z => exact fun _ _ _ h => h
    case hwx5z => rfl
    case hyx5z =>
      intro W hW
      go_simp
      try with_reducible rfl
    simp only [Act.put, List.setIfInBounds_toArray, List.set_cons_succ, List.set_cons_zero]
    refine' wpAnyH_take (i := 6) ?h1x6z ?hsx6z ?hfx6z ?hrx6z ?hQx6z (Or.inl ⟨?hwx6z, ?hyx6z⟩) hS ?restx6z
    case h1x6z => (simp only [List.getElem?_toArray, List.getElem?_cons_succ, List.getElem?_cons_zero]; rfl)
    case hsx6z => kernel_rfl
    case hfx6z => kernel_rfl
    case hrx6z => kernel_rfl
    case hQx6z => exact fun _ _ _ h => h
    case hwx6z => rfl
    case hyx6z =>
      intro W hW
      go_simp
      try with_reducible rfl
    simp only [Act.put, List.setIfInBounds_toArray, List.set_cons_succ, List.set_cons_zero]
    refine' wpAnyH_take (i := 7) ?h1x7z ?hsx7z ?hfx7z ?hrx7z ?hQx7z (Or.inl ⟨?hwx7z, ?hyx7z⟩) hS ?restx7z
    case h1x7z => (simp only [List.getElem?_toArray, List.getElem?_cons_succ, List.getElem?_cons_zero]; rfl)
    case hsx7z => kernel_rfl
    case hfx7z => kernel_rfl
    case hrx7z => kernel_rfl
    case hQx7z => exact fun _ _ _ h => h
    case hwx7z => rfl
    case hyx7z =>
      intro W hW
      go_simp
      try with_reducible rfl
    simp only [Act.put, List.setIfInBounds_toArray, List.set_cons_succ, List.set_cons_zero]
    refine' wpAnyH_take (i := 8) ?h1x8z ?hsx8z ?hfx8z ?hrx8z ?hQx8z (Or.inl ⟨?hwx8z, ?hyx8z⟩) hS ?restx8z
    case h1x8z => (simp only [List.getElem?_toArray, List.getElem?_cons_succ, List.getElem?_cons_zero]; rfl)
    case hsx8z => kernel_rfl
    case hfx8z => kernel_rfl
    case hrx8z => kernel_rfl
    case hQx8z => exact fun _ _ _ h => h
    case hwx8z => rfl
    case hyx8z =>
      intro W hW
      go_simp
      try with_reducible rfl
    simp only [Act.put, List.setIfInBounds_toArray, List.set_cons_succ, List.set_cons_zero]
    refine' wpAnyH_take (i := 9) ?h1x9z ?hsx9z ?hfx9z ?hrx9z ?hQx9z (Or.inl ⟨?hwx9z, ?hyx9z⟩) hS ?restx9z
    case h1x9z => (simp only [List.getElem?_toArray, List.getElem?_cons_succ, List.getElem?_cons_zero]; rfl)
    case hsx9z => kernel_rfl
    case hfx9z => kernel_rfl
    case hrx9z => kernel_rfl
    case hQx9z => exact fun _ _ _ h => h
    case hwx9z => rfl
    case hyx9z =>
      intro W hW
      go_simp
      try with_reducible rfl
    simp only [Act.put, List.setIfInBounds_toArray, List.set_cons_succ, List.set_cons_zero]
    refine' wpAnyH_take (i := 10) ?h1x10z ?hsx10z ?hfx10z ?hrx10z ?hQx10z (Or.inl ⟨?hwx10z, ?hyx10z⟩) hS ?restx10z
    case h1x10z => (simp only [List.getElem?_toArray, List.getElem?_cons_succ, List.getElem?_cons_zero]; rfl)
    case hsx10z => kernel_rfl
    case hfx10z => kernel_rfl
    case hrx10z => kernel_rfl
    case hQx10z => exact fun _ _ _ h => h
    case hwx10z => rfl
    case hyx10z =>
      intro W hW
      go_simp
      try with_reducible rfl
    simp only [Act.put, List.setIfInBounds_toArray, List.set_cons_succ, List.set_cons_zero]
    refine' wpAnyH_take (i := 11) ?h1x11z ?hsx11z ?hfx11z ?hrx11z ?hQx11z (Or.inl ⟨?hwx11z, ?hyx11z⟩) hS ?restx11z
    case h1x11z => (simp only [List.getElem?_toArray, List.getElem?_cons_succ, List.getElem?_cons_zero]; rfl)
    case hsx11z => kernel_rfl
    case hfx11z => kernel_rfl
    case hrx11z => kernel_rfl
    case hQx11z => exact fun _ _ _ h => h
    case hwx11z => rfl
    case hyx11z =>
      intro W hW
      go_simp
      try with_reducible rfl
    simp only [Act.put, List.setIfInBounds_toArray, List.set_cons_succ, List.set_cons_zero]
    refine' wpAnyH_take (i := 12) ?h1x12z ?hsx12z ?hfx12z ?hrx12z ?hQx12z (Or.inl ⟨?hwx12z, ?hyx12z⟩) hS ?restx12z
    case h1x12z => (simp only [List.getElem?_toArray, List.getElem?_cons_succ, List.getElem?_cons_zero]; rfl)
    case hsx12z => kernel_rfl
    case hfx12z => kernel_rfl
    case hrx12z => kernel_rfl
    case hQx12z => exact fun _ _ _ h => h
    case hwx12z => rfl
    case hyx12z =>
      intro W hW
      go_simp
      try with_reducible rfl
    simp only [Act.put, List.setIfInBounds_toArray, List.set_cons_succ, List.set_cons_zero]
    refine' wpAnyH_take (i := 13) ?h1x13z ?hsx13z ?hfx13z ?hrx13z ?hQx13z (Or.inl ⟨?hwx13z, ?hyx13z⟩) hS ?restx13z
    case h1x13z => (simp only [List.getElem?_toArray, List.getElem?_cons_succ, List.getElem?_cons_zero]; rfl)
    case hsx13z => kernel_rfl
    case hfx13z => kernel_rfl
    case hrx13z => kernel_rfl
    case hQx13z => exact fun _ _ _ h => h
    case hwx13z => rfl
    case hyx13z =>
      intro W hW
      go_simp
      try with_reducible rfl
    simp only [Act.put, List.setIfInBounds_toArray, List.set_cons_succ, List.set_cons_zero]
    refine' wpAnyH_take (i := 14) ?h1x14z ?hsx14z ?hfx14z ?hrx14z ?hQx14z (Or.inl ⟨?hwx14z, ?hyx14z⟩) hS ?restx14z
    case h1x14z => (simp only [List.getElem?_toArray, List.getElem?_cons_succ, List.getElem?_cons_zero]; rfl)
    case hsx14z => kernel_rfl
    case hfx14z => kernel_rfl
    case hrx14z => kernel_rfl
    case hQx14z => exact fun _ _ _ h => h
    case hwx14z => rfl
    case hyx14z =>
      intro W hW
      go_simp
      try with_reducible rfl
    simp only [Act.put, List.setIfInBounds_toArray, List.set_cons_succ, List.set_cons_zero]
    refine' wpAnyH_take (i := 15) ?h1x15z ?hsx15z ?hfx15z ?hrx15z ?hQx15z (Or.inl ⟨?hwx15z, ?hyx15z⟩) hS ?restx15z
    case h1x15z => (simp only [List.getElem?_toArray, List.getElem?_cons_succ, List.getElem?_cons_zero]; rfl)
    case hsx15z => kernel_rfl
    case hfx15z => kernel_rfl
    case hrx15z => kernel_rfl
    case hQx15z => exact fun _ _ _ h => h
    case hwx15z => rfl
    case hyx15z =>
      intro W hW
      go_simp
      try with_reducible rfl
    simp only [Act.put, List.setIfInBounds_toArray, List.set_cons_succ, List.set_cons_zero]
    refine' wpAnyH_take (i := 16) ?h1x16z ?hsx16z ?hfx16z ?hrx16z ?hQx16z (Or.inl ⟨?hwx16z, ?hyx16z⟩) hS ?restx16z
    case h1x16z => (simp only [List.getElem?_toArray, List.getElem?_cons_succ, List.getElem?_cons_zero]; rfl)
    case hsx16z => kernel_rfl
    case hfx16z => kernel_rfl
    case hrx16z => kernel_rfl
    case hQx16z => exact fun _ _ _ h => h
    case hwx16z => rfl
    case hyx16z =>
      intro W hW
      go_simp
      try with_reducible rfl
    simp only [Act.put, List.setIfInBounds_toArray, List.set_cons_succ, List.set_cons_zero]
    refine' wpAnyH_take (i := 17) ?h1x17z ?hsx17z ?hfx17z ?hrx17z ?hQx17z (Or.inl ⟨?hwx17z, ?hyx17z⟩) hS ?restx17z
    case h1x17z => (simp only [List.getElem?_toArray, List.getElem?_cons_succ, List.getElem?_cons_zero]; rfl)
    case hsx17z => kernel_rfl
    case hfx17z => kernel_rfl
    case hrx17z => kernel_rfl
    case hQx17z => exact fun _ _ _ h => h
    case hwx17z => rfl
    case hyx17z =>
      intro W hW
      go_simp
      try with_reducible rfl
    simp only [Act.put, List.setIfInBounds_toArray, List.set_cons_succ, List.set_cons_zero]
    refine' wpAnyH_take (i := 18) ?h1x18z ?hsx18z ?hfx18z ?hrx18z ?hQx18z (Or.inl ⟨?hwx18z, ?hyx18z⟩) hS ?restx18z
    case h1x18z => (simp only [List.getElem?_toArray, List.getElem?_cons_succ, List.getElem?_cons_zero]; rfl)
    case hsx18z => kernel_rfl
    case hfx18z => kernel_rfl
    case hrx18z => kernel_rfl
    case hQx18z => exact fun _ _ _ h => h
    case hwx18z => rfl
    case hyx18z =>
      intro W hW
      go_simp
      try with_reducible rfl
    simp only [Act.put, List.setIfInBounds_toArray, List.set_cons_succ, List.set_cons_zero]
    refine' wpAnyH_take (i := 19) ?h1x19z ?hsx19z ?hfx19z ?hrx19z ?hQx19z (Or.inl ⟨?hwx19z, ?hyx19z⟩) hS ?restx19z
    case h1x19z => (simp only [List.getElem?_toArray, List.getElem?_cons_succ, List.getElem?_cons_zero]; rfl)
    case hsx19z => kernel_rfl
    case hfx19z => kernel_rfl
    case hrx19z => kernel_rfl
    case hQx19z => exact fun _ _ _ h => h
    case hwx19z => rfl
    case hyx19z =>
      intro W hW
      go_simp
      try with_reducible rfl
    simp only [Act.put, List.setIfInBounds_toArray, List.set_cons_succ, List.set_cons_zero]
    refine' wpAnyH_take (i := 20) ?h1x20z ?hsx20z ?hfx20z ?hrx20z ?hQx20z (Or.inl ⟨?hwx20z, ?hyx20z⟩) hS ?restx20z
    case h1x20z => (simp only [List.getElem?_toArray, List.getElem?_cons_succ, List.getElem?_cons_zero]; rfl)
    case hsx20z => kernel_rfl
    case hfx20z => kernel_rfl
    case hrx20z => kernel_rfl
    case hQx20z => exact fun _ _ _ h => h
    case hwx20z => rfl
    case hyx20z =>
      intro W hW
      go_simp
      try with_reducible rfl
    simp only [Act.put, List.setIfInBounds_toArray, List.set_cons_succ, List.set_cons_zero]
    refine' wpAnyH_take (i := 21) ?h1x21z ?hsx21z ?hfx21z ?hrx21z ?hQx21z (Or.inl ⟨?hwx21z, ?hyx21z⟩) hS ?restx21z
    case h1x21z => (simp only [List.getElem?_toArray, List.getElem?_cons_succ, List.getElem?_cons_zero]; rfl)
    case hsx21z => kernel_rfl
    case hfx21z => kernel_rfl
    case hrx21z => kernel_rfl
    case hQx21z => exact fun _ _ _ h => h
    case hwx21z => rfl
    case hyx21z =>
      intro W hW
      go_simp
      try with_reducible rfl
    simp only [Act.put, List.setIfInBounds_toArray, List.set_cons_succ, List.set_cons_zero]
    refine' wpAnyH_take (i := 22) ?h1x22z ?hsx22z ?hfx22z ?hrx22z ?hQx22z (Or.inl ⟨?hwx22z, ?hyx22z⟩) hS ?restx22z
    case h1x22z => (simp only [List.getElem?_toArray, List.getElem?_cons_succ, List.getElem?_cons_zero]; rfl)
    case hsx22z => kernel_rfl
    case hfx22z => kernel_rfl
    case hrx22z => kernel_rfl
    case hQx22z => exact fun _ _ _ h => h
    case hwx22z => rfl
    case hyx22z =>
      intro W hW
      go_simp
      try with_reducible rfl
    simp only [Act.put, List.setIfInBounds_toArray, List.set_cons_succ, List.set_cons_zero]
    refine' wpAnyH_take (i := 23) ?h1x23z ?hsx23z ?hfx23z ?hrx23z ?hQx23z (Or.inl ⟨?hwx23z, ?hyx23z⟩) hS ?restx23z
    case h1x23z => (simp only [List.getElem?_toArray, List.getElem?_cons_succ, List.getElem?_cons_zero]; rfl)
    case hsx23z => kernel_rfl
    case hfx23z => kernel_rfl
    case hrx23z => kernel_rfl
    case hQx23z => exact fun _ _ _ h => h
    case hwx23z => rfl
    case hyx23z =>
      intro W hW
      go_simp
      try with_reducible rfl
    simp only [Act.put, List.setIfInBounds_toArray, List.set_cons_succ, List.set_cons_zero]
    refine' wpAnyH_take (i := 24) ?h1x24z ?hsx24z ?hfx24z ?hrx24z ?hQx24z (Or.inl ⟨?hwx24z, ?hyx24z⟩) hS ?restx24z
    case h1x24z => (simp only [List.getElem?_toArray, List.getElem?_cons_succ, List.getElem?_cons_zero]; rfl)
    case hsx24z => kernel_rfl
    case hfx24z => kernel_rfl
    case hrx24z => kernel_rfl
    case hQx24z => exact fun _ _ _ h => h
    case hwx24z => rfl
    case hyx24z =>
      intro W hW
      go_simp
      try with_reducible rfl
    simp only [Act.put, List.setIfInBounds_toArray, List.set_cons_succ, List.set_cons_zero]
    refine' wpAnyH_take (i := 25) ?h1x25z ?hsx25z ?hfx25z ?hrx25z ?hQx25z (Or.inl ⟨?hwx25z, ?hyx25z⟩) hS ?restx25z
    case h1x25z => (simp only [List.getElem?_toArray, List.getElem?_cons_succ, List.getElem?_cons_zero]; rfl)
    case hsx25z => kernel_rfl
    case hfx25z => kernel_rfl
    case hrx25z => kernel_rfl
    case hQx25z => exact fun _ _ _ h => h
    case hwx25z => rfl
    case hyx25z =>
      intro W hW
      go_simp
      try with_reducible rfl
    simp only [Act.put, List.setIfInBounds_toArray, List.set_cons_succ, List.set_cons_zero]
    refine' wpAnyH_take (i := 26) ?h1x26z ?hsx26z ?hfx26z ?hrx26z ?hQx26z (Or.inl ⟨?hwx26z, ?hyx26z⟩) hS ?restx26z
    case h1x26z => (simp only [List.getElem?_toArray, List.getElem?_cons_succ, List.getElem?_cons_zero]; rfl)
    case hsx26z => kernel_rfl
    case hfx26z => kernel_rfl
    case hrx26z => kernel_rfl
    case hQx26z => exact fun _ _ _ h => h
    case hwx26z => rfl
    case hyx26z =>
      intro W hW
      go_simp
      try with_reducible rfl
    simp only [Act.put, List.setIfInBounds_toArray, List.set_cons_succ, List.set_cons_zero]
    refine' wpAnyH_take (i := 27) ?h1x27z ?hsx27z ?hfx27z ?hrx27z ?hQx27z (Or.inl ⟨?hwx27z, ?hyx27z⟩) hS ?restx27z
    case h1x27z => (simp only [List.getElem?_toArray, List.getElem?_cons_succ, List.getElem?_cons_zero]; rfl)
    case hsx27z => kernel_rfl
    case hfx27z => kernel_rfl
    case hrx27z => kernel_rfl
    case hQx27z => exact fun _ _ _ h => h
    case hwx27z => rfl
    case hyx27z =>
      intro W hW
      go_simp
      try with_reducible rfl
    simp only [Act.put, List.setIfInBounds_toArray, List.set_cons_succ, List.set_cons_zero]
    refine' wpAnyH_take (i := 28) ?h1x28z ?hsx28z ?hfx28z ?hrx28z ?hQx28z (Or.inl ⟨?hwx28z, ?hyx28z⟩) hS ?restx28z
    case h1x28z => (simp only [List.getElem?_toArray, List.getElem?_cons_succ, List.getElem?_cons_zero]; rfl)
    case hsx28z => kernel_rfl
    case hfx28z => kernel_rfl
    case hrx28z => kernel_rfl
    case hQx28z => exact fun _ _ _ h => h
    case hwx28z => rfl
    case hyx28z =>
      intro W hW
      go_simp
      try with_reducible rfl
    simp only [Act.put, List.setIfInBounds_toArray, List.set_cons_succ, List.set_cons_zero]
    refine' wpAnyH_take (i := 29) ?h1x29z ?hsx29z ?hfx29z ?hrx29z ?hQx29z (Or.inl ⟨?hwx29z, ?hyx29z⟩) hS ?restx29z
    case h1x29z => (simp only [List.getElem?_toArray, List.getElem?_cons_succ, List.getElem?_cons_zero]; rfl)
    case hsx29z => kernel_rfl
    case hfx29z => kernel_rfl
    case hrx29z => kernel_rfl
    case hQx29z => exact fun _ _ _ h => h
    case hwx29z => rfl
    case hyx29z =>
      intro W hW
      have cs := (S88.out.below hW).str
      go_simp
      try with_reducible rfl
    simp only [Act.put, List.setIfInBounds_toArray, List.set_cons_succ, List.set_cons_zero]
    refine' wpAnyH_take (i := 30) ?h1x30z ?hsx30z ?hfx30z ?hrx30z ?hQx30z (Or.inl ⟨?hwx30z, ?hyx30z⟩) hS ?restx30z
    case h1x30z => (simp only [List.getElem?_toArray, List.getElem?_cons_succ, List.getElem?_cons_zero]; rfl)
    case hsx30z => kernel_rfl
    case hfx30z => kernel_rfl
    case hrx30z => kernel_rfl
    case hQx30z => exact fun _ _ _ h => h
    case hwx30z => rfl
    case hyx30z =>
      intro W hW
      go_simp
      try with_reducible rfl
    simp only [Act.put, List.setIfInBounds_toArray, List.set_cons_succ, List.set_cons_zero]
    refine' wpAnyH_take (i := 31) ?h1x31z ?hsx31z ?hfx31z ?hrx31z ?hQx31z (Or.inl ⟨?hwx31z, ?hyx31z⟩) hS ?restx31z
    case h1x31z => (simp only [List.getElem?_toArray, List.getElem?_cons_succ, List.getElem?_cons_zero]; rfl)
    case hsx31z => kernel_rfl
    case hfx31z => kernel_rfl
    case hrx31z => kernel_rfl
    case hQx31z => exact fun _ _ _ h => h
    case hwx31z => rfl
    case hyx31z =>
      intro W hW
      have cs := (SA7.out.below hW).str
      go_simp
      try with_reducible rfl
    simp only [Act.put, List.setIfInBounds_toArray, List.set_cons_succ, List.set_cons_zero]
    refine' wpAnyH_take (i := 32) ?h1x32z ?hsx32z ?hfx32z ?hrx32z ?hQx32z (Or.inl ⟨?hwx32z, ?hyx32z⟩) hS ?restx32z
    case h1x32z => (simp only [List.getElem?_toArray, List.getElem?_cons_succ, List.getElem?_cons_zero]; rfl)
    case hsx32z => kernel_rfl
    case hfx32z => kernel_rfl
    case hrx32z => kernel_rfl
    case hQx32z => exact fun _ _ _ h => h
    case hwx32z => rfl
    case hyx32z =>
      intro W hW
      go_simp
      try with_reducible rfl
    simp only [Act.put, List.setIfInBounds_toArray, List.set_cons_succ, List.set_cons_zero]
    refine' wpAnyH_take (i := 33) ?h1x33z ?hsx33z ?hfx33z ?hrx33z ?hQx33z (Or.inl ⟨?hwx33z, ?hyx33z⟩) hS ?restx33z
    case h1x33z => (simp only [List.getElem?_toArray, List.getElem?_cons_succ, List.getElem?_cons_zero]; rfl)
    case hsx33z => kernel_rfl
    case hfx33z => kernel_rfl
    case hrx33z => kernel_rfl
    case hQx33z => exact fun _ _ _ h => h
    case hwx33z => rfl
    case hyx33z =>
      intro W hW
      go_simp
      try with_reducible rfl
    simp only [Act.put, List.setIfInBounds_toArray, List.set_cons_succ, List.set_cons_zero]
    refine' wpAnyH_take (i := 34) ?h1x34z ?hsx34z ?hfx34z ?hrx34z ?hQx34z (Or.inl ⟨?hwx34z, ?hyx34z⟩) hS ?restx34z
    case h1x34z => (simp only [List.getElem?_toArray, List.getElem?_cons_succ, List.getElem?_cons_zero]; rfl)
    case hsx34z => kernel_rfl
    case hfx34z => kernel_rfl
    case hrx34z => kernel_rfl
    case hQx34z => exact fun _ _ _ h => h
    case hwx34z => rfl
    case hyx34z =>
      intro W hW
      go_simp
      try with_reducible rfl
    simp only [Act.put, List.setIfInBounds_toArray, List.set_cons_succ, List.set_cons_zero]
    refine' wpAnyH_take (i := 35) ?h1x35z ?hsx35z ?hfx35z ?hrx35z ?hQx35z (Or.inl ⟨?hwx35z, ?hyx35z⟩) hS ?restx35z
    case h1x35z => (simp only [List.getElem?_toArray, List.getElem?_cons_succ, List.getElem?_cons_zero]; rfl)
    case hsx35z => kernel_rfl
    case hfx35z => kernel_rfl
    case hrx35z => kernel_rfl
    case hQx35z => exact fun _ _ _ h => h
    case hwx35z => rfl
    case hyx35z =>
      intro W hW
      go_simp
      try with_reducible rfl
    simp only [Act.put, List.setIfInBounds_toArray, List.set_cons_succ, List.set_cons_zero]
    refine' wpAnyH_take (i := 36) ?h1x36z ?hsx36z ?hfx36z ?hrx36z ?hQx36z (Or.inl ⟨?hwx36z, ?hyx36z⟩) hS ?restx36z
    case h1x36z => (simp only [List.getElem?_toArray, List.getElem?_cons_succ, List.getElem?_cons_zero]; rfl)
    case hsx36z => kernel_rfl
    case hfx36z => kernel_rfl
    case hrx36z => kernel_rfl
    case hQx36z => exact fun _ _ _ h => h
    case hwx36z => rfl
    case hyx36z =>
      intro W hW
      have cs := (SC7.out.below hW).str
      go_simp
      try with_reducible rfl
    simp only [Act.put, List.setIfInBounds_toArray, List.set_cons_succ, List.set_cons_zero]
    refine' wpAnyH_take (i := 37) ?h1x37z ?hsx37z ?hfx37z ?hrx37z ?hQx37z (Or.inl ⟨?hwx37z, ?hyx37z⟩) hS ?restx37z
    case h1x37z => (simp only [List.getElem?_toArray, List.getElem?_cons_succ, List.getElem?_cons_zero]; rfl)
    case hsx37z => kernel_rfl
    case hfx37z => kernel_rfl
    case hrx37z => kernel_rfl
    case hQx37z => exact fun _ _ _ h => h
    case hwx37z => rfl
    case hyx37z =>
      intro W hW
      go_simp
      try with_reducible rfl
    simp only [Act.put, List.setIfInBounds_toArray, List.set_cons_succ, List.set_cons_zero]
    refine' wpAnyH_take (i := 38) ?h1x38z ?hsx38z ?hfx38z ?hrx38z ?hQx38z (Or.inl ⟨?hwx38z, ?hyx38z⟩) hS ?restx38z
    case h1x38z => (simp only [List.getElem?_toArray, List.getElem?_cons_succ, List.getElem?_cons_zero]; rfl)
    case hsx38z => kernel_rfl
    case hfx38z => kernel_rfl
    case hrx38z => kernel_rfl
    case hQx38z => exact fun _ _ _ h => h
    case hwx38z => rfl
    case hyx38z =>
      intro W hW
      have cs := (SR.out.below hW).str
      go_simp
      try with_reducible rfl
    simp only [Act.put, List.setIfInBounds_toArray, List.set_cons_succ, List.set_cons_zero]
    refine' wpAnyH_take (i := 39) ?h1x39z ?hsx39z ?hfx39z ?hrx39z ?hQx39z (Or.inl ⟨?hwx39z, ?hyx39z⟩) hS ?restx39z
    case h1x39z => (simp only [List.getElem?_toArray, List.getElem?_cons_succ, List.getElem?_cons_zero]; rfl)
    case hsx39z => kernel_rfl
    case hfx39z => kernel_rfl
    case hrx39z => kernel_rfl
    case hQx39z => exact fun _ _ _ h => h
    case hwx39z => rfl
    case hyx39z =>
      intro W hW
      go_simp
      try with_reducible rfl
    simp only [Act.put, List.setIfInBounds_toArray, List.set_cons_succ, List.set_cons_zero]
    refine' wpAnyH_take (i := 40) ?h1x40z ?hsx40z ?hfx40z ?hrx40z ?hQx40z (Or.inl ⟨?hwx40z, ?hyx40z⟩) hS ?restx40z
    case h1x40z => (simp only [List.getElem?_toArray, List.getElem?_cons_succ, List.getElem?_cons_zero]; rfl)
    case hsx40z => kernel_rfl
    case hfx40z => kernel_rfl
    case hrx40z => kernel_rfl
    case hQx40z => exact fun _ _ _ h => h
    case hwx40z => rfl
    case hyx40z =>
      intro W hW
      go_simp
      try with_reducible rfl
    simp only [Act.put, List.setIfInBounds_toArray, List.set_cons_succ, List.set_cons_zero]
    refine' wpAnyH_take (i := 41) ?h1x41z ?hsx41z ?hfx41z ?hrx41z ?hQx41z (Or.inl ⟨?hwx41z, ?hyx41z⟩) hS ?restx41z
    case h1x41z => (simp only [List.getElem?_toArray, List.getElem?_cons_succ, List.getElem?_cons_zero]; rfl)
    case hsx41z => kernel_rfl
    case hfx41z => kernel_rfl
    case hrx41z => kernel_rfl
    case hQx41z => exact fun _ _ _ h => h
    case hwx41z => rfl
    case hyx41z =>
      intro W hW
      go_simp
      try with_reducible rfl
    simp only [Act.put, List.setIfInBounds_toArray, List.set_cons_succ, List.set_cons_zero]
    refine wpAnyH_done (by kernel_rfl) ?_ _
    go_wp2_with fail
    go_ret
    exact ⟨rfl, B7.out.trans (hS.mono B7.out.size)⟩
  clear hK6
  refine wp_region_any (by kernel_rfl) ?_
  change wpAny _ _ _ _ _ _ _ (World.drew _)
  have hD : Below w3.heap.size w3 w3.drew := (Below.refl _ _).drew
  have SN := Lib.hid (HN.out.below (B3.out.trans (hD.mono B3.out.size)))
  have GD := Lib.hid (HGL.out.below (B3.out.trans (hD.mono B3.out.size)) H2W.out)
  have KD : Hid (Sees w3.drew (.slice (some ⟨w.heap.size, 0, none⟩) 32 32) key) := (row_sees (t := 48) (by rw [← HCK.out]; exact K3.out) LK.out HK.out).below hD
  have H2D : Hid (2 ≤ w3.drew.heap.size) := Nat.le_trans H2W.out (Nat.le_trans B3.out.size hD.size)
  generalize w3.drew = wd at hD SN GD KD H2D ⊢
  have hS : MSt wd wd true none none none := MSt.start
  refine' wpAny_take (i := 0) ?h1x0s ?hsx0s ?hfx0s ?hrx0s ?hQx0s (Or.inl ⟨?hwx0s, ?hyx0s⟩) ?restx0s
  case h1x0s => (simp only [List.getElem?_toArray, List.getElem?_cons_zero]; rfl)
  case hsx0s => kernel_rfl
  case hfx0s => kernel_rfl
  case hrx0s => kernel_rfl
  case hQx0s => exact fun _ _ _ h => h
  case hwx0s => rfl
  case hyx0s =>
    intro W
    go_simp
    try with_reducible rfl
  simp only [Act.put, List.setIfInBounds_toArray, List.set_cons_succ, List.set_cons_zero]
  refine' wpAny_take (i := 2) ?h1x2s ?hsx2s ?hfx2s ?hrx2s ?hQx2s (Or.inl ⟨?hwx2s, ?hyx2s⟩) ?restx2s
  case h1x2s => (simp only [List.getElem?_toArray, List.getElem?_cons_succ, List.getElem?_cons_zero]; rfl)
  case hsx2s => kernel_rfl
  case hfx2s => kernel_rfl
  case hrx2s => kernel_rfl
  case hQx2s => exact fun _ _ _ h => h
  case hwx2s => rfl
  case hyx2s =>
    intro W
    go_simp
    try with_reducible rfl
  simp only [Act.put, List.setIfInBounds_toArray, List.set_cons_succ, List.set_cons_zero]
  refine wpAny_ready (rs := [1, 4, 7]) (by kernel_rfl) (by simp) ?_
  refine' AllReady.cons ?hoc1t1 (fun K hK => ?stc1t1) ?more1t1
  case hoc1t1 => (simp only [List.getElem?_toArray, List.getElem?_cons_succ, List.getElem?_cons_zero]; rfl)
  case stc1t1 =>
    go_simp
    refine hK _ _ ?_
    clear hK K
    try simp only [Act.put, List.setIfInBounds_toArray, List.set_cons_succ, List.set_cons_zero]
    replace hS := hS.mk_one
    generalize wd.alloc (.cells #[] 5) = v1 at hS ⊢
    refine wpAny_ready (rs := [3, 4, 7]) (by kernel_rfl) (by simp) ?_
    refine' AllReady.cons ?hoc3t2 (fun K hK => ?stc3t2) ?more3t2
    case hoc3t2 => (simp only [List.getElem?_toArray, List.getElem?_cons_succ, List.getElem?_cons_zero]; rfl)
    case stc3t2 =>
      rw [if_pos (by rfl)]
      obtain ⟨q3t2, k3t2, v2, hr, hT⟩ := hS.mk_three SN.out LNM.out
      refine wp_app (.tmp 54) (.tmp 55) rfl rfl rfl rfl hr ?_
      refine hK _ _ ?_
      clear hK K hr hS
      have hS := hT
      clear hT
      simp only [Act.put, List.setIfInBounds_toArray, List.set_cons_succ, List.set_cons_zero]
      refine wpAny_ready (rs := [4, 7]) (by kernel_rfl) (by simp) ?_
      refine' AllReady.cons ?hoc4t3 (fun K hK => ?stc4t3) ?more4t3
      case hoc4t3 => (simp only [List.getElem?_toArray, List.getElem?_cons_succ, List.getElem?_cons_zero]; rfl)
      case stc4t3 =>
        go_simp
        refine hK _ _ ?_
        clear hK K
        try simp only [Act.put, List.setIfInBounds_toArray, List.set_cons_succ, List.set_cons_zero]
        replace hS := hS.mk_four
        generalize v2.alloc (.cells #[.int .u8 1] 5) = v3 at hS ⊢
        refine wpAny_ready (rs := [5, 7]) (by kernel_rfl) (by simp) ?_
        refine' AllReady.cons ?hoc5t4 (fun K hK => ?stc5t4) ?more5t4
        case hoc5t4 => (simp only [List.getElem?_toArray, List.getElem?_cons_succ, List.getElem?_cons_zero]; rfl)
        case stc5t4 =>
          rw [if_pos (by rfl)]
          obtain ⟨q5t4, k5t4, v4, hr, hT⟩ := hS.mk_five LNM.out
          refine wp_app (.tmp 56) (.tmp 57) rfl rfl rfl rfl hr ?_
          refine hK _ _ ?_
          clear hK K hr hS
          have hS := hT
          clear hT
          simp only [Act.put, List.setIfInBounds_toArray, List.set_cons_succ, List.set_cons_zero]
          refine wpAny_ready (rs := [6, 7]) (by kernel_rfl) (by simp) ?_
          refine' AllReady.cons ?hoc6t5 (fun K hK => ?stc6t5) ?more6t5
          case hoc6t5 => (simp only [List.getElem?_toArray, List.getElem?_cons_succ, List.getElem?_cons_zero]; rfl)
          case stc6t5 =>
            go_simp
            refine (MK.out v4 w.heap.size _ (GD.out.below hS.bel H2D.out) (KD.out.below hS.bel) hS.sees).mono ?_
            rintro e v5 ⟨rfl, hb⟩
            refine hK _ _ ?_
            clear hK K
            replace hS := hS.below hb
            clear hb
            try simp only [Act.put, List.setIfInBounds_toArray, List.set_cons_succ, List.set_cons_zero]
            refine wpAny_ready (rs := [7]) (by kernel_rfl) (by simp) ?_
            refine' AllReady.cons ?hoc7t6 (fun K hK => ?stc7t6) AllReady.nil
            case hoc7t6 => (simp only [List.getElem?_toArray, List.getElem?_cons_succ, List.getElem?_cons_zero]; rfl)
            go_simp
            refine hK _ _ ?_
            clear hK K
            try simp only [Act.put, List.setIfInBounds_toArray, List.set_cons_succ, List.set_cons_zero]
            replace hS := hS.mk_seven Z27 HZ.out
            generalize v5.alloc (.cells Z27 27) = v6 at hS ⊢
            refine wpAny_ready (rs := [8]) (by kernel_rfl) (by simp) ?_
            refine' AllReady.cons ?hoc8t7 (fun K hK => ?stc8t7) AllReady.nil
            case hoc8t7 => (simp only [List.getElem?_toArray, List.getElem?_cons_succ, List.getElem?_cons_zero]; rfl)
            rw [if_pos (by rfl)]
            refine wp_store_row 27 (.tmp 15) (.tmp 59) rfl _ (bcells (F)) rfl rfl 27 _ (hS.row _ rfl).2 IF.out ZF.out OF.out ?_
            refine hK _ _ ?_
            clear hK K
            simp only [Act.put]
            refine wpAny_done (by kernel_rfl) ?_ _
            exact HKx.out _ _ _ _ _ _ ((hD.trans (hS.bel.mono hD.size)).trans (below_row _ _ (Nat.le_trans hD.size (hS.row _ rfl).1))) (setRow_heap _ _ _ _ _ _ (hS.row _ rfl).2)
          refine' AllReady.cons ?hoc7t8 (fun K hK => ?stc7t8) AllReady.nil
          case hoc7t8 => (simp only [List.getElem?_toArray, List.getElem?_cons_succ, List.getElem?_cons_zero]; rfl)
          case stc7t8 =>
            go_simp
            refine hK _ _ ?_
            clear hK K
            try simp only [Act.put, List.setIfInBounds_toArray, List.set_cons_succ, List.set_cons_zero]
            replace hS := hS.mk_seven Z27 HZ.out
            generalize v4.alloc (.cells Z27 27) = v8 at hS ⊢
            refine wpAny_ready (rs := [6]) (by kernel_rfl) (by simp) ?_
            refine' AllReady.cons ?hoc6t9 (fun K hK => ?stc6t9) AllReady.nil
            case hoc6t9 => (simp only [List.getElem?_toArray, List.getElem?_cons_succ, List.getElem?_cons_zero]; rfl)
            go_simp
            refine (MK.out v8 w.heap.size _ (GD.out.below hS.bel H2D.out) (KD.out.below hS.bel) hS.sees).mono ?_
            rintro e v9 ⟨rfl, hb⟩
            refine hK _ _ ?_
            clear hK K
            replace hS := hS.below hb
            clear hb
            try simp only [Act.put, List.setIfInBounds_toArray, List.set_cons_succ, List.set_cons_zero]
            refine wpAny_ready (rs := [8]) (by kernel_rfl) (by simp) ?_
            refine' AllReady.cons ?hoc8t10 (fun K hK => ?stc8t10) AllReady.nil
            case hoc8t10 => (simp only [List.getElem?_toArray, List.getElem?_cons_succ, List.getElem?_cons_zero]; rfl)
            rw [if_pos (by rfl)]
            refine wp_store_row 27 (.tmp 15) (.tmp 59) rfl _ (bcells (F)) rfl rfl 27 _ (hS.row _ rfl).2 IF.out ZF.out OF.out ?_
            refine hK _ _ ?_
            clear hK K
            simp only [Act.put]
            refine wpAny_done (by kernel_rfl) ?_ _
            exact HKx.out _ _ _ _ _ _ ((hD.trans (hS.bel.mono hD.size)).trans (below_row _ _ (Nat.le_trans hD.size (hS.row _ rfl).1))) (setRow_heap _ _ _ _ _ _ (hS.row _ rfl).2)
        refine' AllReady.cons ?hoc7t11 (fun K hK => ?stc7t11) AllReady.nil
        case hoc7t11 => (simp only [List.getElem?_toArray, List.getElem?_cons_succ, List.getElem?_cons_zero]; rfl)
        case stc7t11 =>
          go_simp
          refine hK _ _ ?_
          clear hK K
          try simp only [Act.put, List.setIfInBounds_toArray, List.set_cons_succ, List.set_cons_zero]
          replace hS := hS.mk_seven Z27 HZ.out
          generalize v3.alloc (.cells Z27 27) = v11 at hS ⊢
          refine wpAny_ready (rs := [5]) (by kernel_rfl) (by simp) ?_
          refine' AllReady.cons ?hoc5t12 (fun K hK => ?stc5t12) AllReady.nil
          case hoc5t12 => (simp only [List.getElem?_toArray, List.getElem?_cons_succ, List.getElem?_cons_zero]; rfl)
          rw [if_pos (by rfl)]
          obtain ⟨q5t12, k5t12, v12, hr, hT⟩ := hS.mk_five LNM.out
          refine wp_app (.tmp 56) (.tmp 57) rfl rfl rfl rfl hr ?_
          refine hK _ _ ?_
          clear hK K hr hS
          have hS := hT
          clear hT
          simp only [Act.put, List.setIfInBounds_toArray, List.set_cons_succ, List.set_cons_zero]
          refine wpAny_ready (rs := [6]) (by kernel_rfl) (by simp) ?_
          refine' AllReady.cons ?hoc6t13 (fun K hK => ?stc6t13) AllReady.nil
          case hoc6t13 => (simp only [List.getElem?_toArray, List.getElem?_cons_succ, List.getElem?_cons_zero]; rfl)
          go_simp
          refine (MK.out v12 w.heap.size _ (GD.out.below hS.bel H2D.out) (KD.out.below hS.bel) hS.sees).mono ?_
          rintro e v13 ⟨rfl, hb⟩
          refine hK _ _ ?_
          clear hK K
          replace hS := hS.below hb
          clear hb
          try simp only [Act.put, List.setIfInBounds_toArray, List.set_cons_succ, List.set_cons_zero]
          refine wpAny_ready (rs := [8]) (by kernel_rfl) (by simp) ?_
          refine' AllReady.cons ?hoc8t14 (fun K hK => ?stc8t14) AllReady.nil
          case hoc8t14 => (simp only [List.getElem?_toArray, List.getElem?_cons_succ, List.getElem?_cons_zero]; rfl)
          rw [if_pos (by rfl)]
          refine wp_store_row 27 (.tmp 15) (.tmp 59) rfl _ (bcells (F)) rfl rfl 27 _ (hS.row _ rfl).2 IF.out ZF.out OF.out ?_
          refine hK _ _ ?_
          clear hK K
          simp only [Act.put]
          refine wpAny_done (by kernel_rfl) ?_ _
          exact HKx.out _ _ _ _ _ _ ((hD.trans (hS.bel.mono hD.size)).trans (below_row _ _ (Nat.le_trans hD.size (hS.row _ rfl).1))) (setRow_heap _ _ _ _ _ _ (hS.row _ rfl).2)
      refine' AllReady.cons ?hoc7t15 (fun K hK => ?stc7t15) AllReady.nil
      case hoc7t15 => (simp only [List.getElem?_toArray, List.getElem?_cons_succ, List.getElem?_cons_zero]; rfl)
      case stc7t15 =>
        go_simp
        refine hK _ _ ?_
        clear hK K
        try simp only [Act.put, List.setIfInBounds_toArray, List.set_cons_succ, List.set_cons_zero]
        replace hS := hS.mk_seven Z27 HZ.out
        generalize v2.alloc (.cells Z27 27) = v15 at hS ⊢
        refine wpAny_ready (rs := [4]) (by kernel_rfl) (by simp) ?_
        refine' AllReady.cons ?hoc4t16 (fun K hK => ?stc4t16) AllReady.nil
        case hoc4t16 => (simp only [List.getElem?_toArray, List.getElem?_cons_succ, List.getElem?_cons_zero]; rfl)
        go_simp
        refine hK _ _ ?_
        clear hK K
        try simp only [Act.put, List.setIfInBounds_toArray, List.set_cons_succ, List.set_cons_zero]
        replace hS := hS.mk_four
        generalize v15.alloc (.cells #[.int .u8 1] 5) = v16 at hS ⊢
        refine wpAny_ready (rs := [5]) (by kernel_rfl) (by simp) ?_
        refine' AllReady.cons ?hoc5t17 (fun K hK => ?stc5t17) AllReady.nil
        case hoc5t17 => (simp only [List.getElem?_toArray, List.getElem?_cons_succ, List.getElem?_cons_zero]; rfl)
        rw [if_pos (by rfl)]
        obtain ⟨q5t17, k5t17, v17, hr, hT⟩ := hS.mk_five LNM.out
        refine wp_app (.tmp 56) (.tmp 57) rfl rfl rfl rfl hr ?_
        refine hK _ _ ?_
        clear hK K hr hS
        have hS := hT
        clear hT
        simp only [Act.put, List.setIfInBounds_toArray, List.set_cons_succ, List.set_cons_zero]
        refine wpAny_ready (rs := [6]) (by kernel_rfl) (by simp) ?_
        refine' AllReady.cons ?hoc6t18 (fun K hK => ?stc6t18) AllReady.nil
        case hoc6t18 => (simp only [List.getElem?_toArray, List.getElem?_cons_succ, List.getElem?_cons_zero]; rfl)
        go_simp
        refine (MK.out v17 w.heap.size _ (GD.out.below hS.bel H2D.out) (KD.out.below hS.bel) hS.sees).mono ?_
        rintro e v18 ⟨rfl, hb⟩
        refine hK _ _ ?_
        clear hK K
        replace hS := hS.below hb
        clear hb
        try simp only [Act.put, List.setIfInBounds_toArray, List.set_cons_succ, List.set_cons_zero]
        refine wpAny_ready (rs := [8]) (by kernel_rfl) (by simp) ?_
        refine' AllReady.cons ?hoc8t19 (fun K hK => ?stc8t19) AllReady.nil
        case hoc8t19 => (simp only [List.getElem?_toArray, List.getElem?_cons_succ, List.getElem?_cons_zero]; rfl)
        rw [if_pos (by rfl)]
        refine wp_store_row 27 (.tmp 15) (.tmp 59) rfl _ (bcells (F)) rfl rfl 27 _ (hS.row _ rfl).2 IF.out ZF.out OF.out ?_
        refine hK _ _ ?_
        clear hK K
        simp only [Act.put]
        refine wpAny_done (by kernel_rfl) ?_ _
        exact HKx.out _ _ _ _ _ _ ((hD.trans (hS.bel.mono hD.size)).trans (below_row _ _ (Nat.le_trans hD.size (hS.row _ rfl).1))) (setRow_heap _ _ _ _ _ _ (hS.row _ rfl).2)
    refine' AllReady.cons ?hoc4t20 (fun K hK => ?stc4t20) ?more4t20
    case hoc4t20 => (simp only [List.getElem?_toArray, List.getElem?_cons_succ, List.getElem?_cons_zero]; rfl)
    case stc4t20 =>
      go_simp
      refine hK _ _ ?_
      clear hK K
      try simp only [Act.put, List.setIfInBounds_toArray, List.set_cons_succ, List.set_cons_zero]
      replace hS := hS.mk_four
      generalize v1.alloc (.cells #[.int .u8 1] 5) = v20 at hS ⊢
      refine wpAny_ready (rs := [3, 7]) (by kernel_rfl) (by simp) ?_
      refine' AllReady.cons ?hoc3t21 (fun K hK => ?stc3t21) ?more3t21
      case hoc3t21 => (simp only [List.getElem?_toArray, List.getElem?_cons_succ, List.getElem?_cons_zero]; rfl)
      case stc3t21 =>
        rw [if_pos (by rfl)]
        obtain ⟨q3t21, k3t21, v21, hr, hT⟩ := hS.mk_three SN.out LNM.out
        refine wp_app (.tmp 54) (.tmp 55) rfl rfl rfl rfl hr ?_
        refine hK _ _ ?_
        clear hK K hr hS
        have hS := hT
        clear hT
        simp only [Act.put, List.setIfInBounds_toArray, List.set_cons_succ, List.set_cons_zero]
        refine wpAny_ready (rs := [5, 7]) (by kernel_rfl) (by simp) ?_
        refine' AllReady.cons ?hoc5t22 (fun K hK => ?stc5t22) ?more5t22
        case hoc5t22 => (simp only [List.getElem?_toArray, List.getElem?_cons_succ, List.getElem?_cons_zero]; rfl)
        case stc5t22 =>
          rw [if_pos (by rfl)]
          obtain ⟨q5t22, k5t22, v22, hr, hT⟩ := hS.mk_five LNM.out
          refine wp_app (.tmp 56) (.tmp 57) rfl rfl rfl rfl hr ?_
          refine hK _ _ ?_
          clear hK K hr hS
          have hS := hT
          clear hT
          simp only [Act.put, List.setIfInBounds_toArray, List.set_cons_succ, List.set_cons_zero]
          refine wpAny_ready (rs := [6, 7]) (by kernel_rfl) (by simp) ?_
          refine' AllReady.cons ?hoc6t23 (fun K hK => ?stc6t23) ?more6t23
          case hoc6t23 => (simp only [List.getElem?_toArray, List.getElem?_cons_succ, List.getElem?_cons_zero]; rfl)
          case stc6t23 =>
            go_simp
            refine (MK.out v22 w.heap.size _ (GD.out.below hS.bel H2D.out) (KD.out.below hS.bel) hS.sees).mono ?_
            rintro e v23 ⟨rfl, hb⟩
            refine hK _ _ ?_
            clear hK K
            replace hS := hS.below hb
            clear hb
            try simp only [Act.put, List.setIfInBounds_toArray, List.set_cons_succ, List.set_cons_zero]
            refine wpAny_ready (rs := [7]) (by kernel_rfl) (by simp) ?_
            refine' AllReady.cons ?hoc7t24 (fun K hK => ?stc7t24) AllReady.nil
            case hoc7t24 => (simp only [List.getElem?_toArray, List.getElem?_cons_succ, List.getElem?_cons_zero]; rfl)
            go_simp
            refine hK _ _ ?_
            clear hK K
            try simp only [Act.put, List.setIfInBounds_toArray, List.set_cons_succ, List.set_cons_zero]
            replace hS := hS.mk_seven Z27 HZ.out
            generalize v23.alloc (.cells Z27 27) = v24 at hS ⊢
            refine wpAny_ready (rs := [8]) (by kernel_rfl) (by simp) ?_
            refine' AllReady.cons ?hoc8t25 (fun K hK => ?stc8t25) AllReady.nil
            case hoc8t25 => (simp only [List.getElem?_toArray, List.getElem?_cons_succ, List.getElem?_cons_zero]; rfl)
            rw [if_pos (by rfl)]
            refine wp_store_row 27 (.tmp 15) (.tmp 59) rfl _ (bcells (F)) rfl rfl 27 _ (hS.row _ rfl).2 IF.out ZF.out OF.out ?_
            refine hK _ _ ?_
            clear hK K
            simp only [Act.put]
            refine wpAny_done (by kernel_rfl) ?_ _
            exact HKx.out _ _ _ _ _ _ ((hD.trans (hS.bel.mono hD.size)).trans (below_row _ _ (Nat.le_trans hD.size (hS.row _ rfl).1))) (setRow_heap _ _ _ _ _ _ (hS.row _ rfl).2)
          refine' AllReady.cons ?hoc7t26 (fun K hK => ?stc7t26) AllReady.nil
          case hoc7t26 => (simp only [List.getElem?_toArray, List.getElem?_cons_succ, List.getElem?_cons_zero]; rfl)
          case stc7t26 =>
            go_simp
            refine hK _ _ ?_
            clear hK K
            try simp only [Act.put, List.setIfInBounds_toArray, List.set_cons_succ, List.set_cons_zero]
            replace hS := hS.mk_seven Z27 HZ.out
            generalize v22.alloc (.cells Z27 27) = v26 at hS ⊢
            refine wpAny_ready (rs := [6]) (by kernel_rfl) (by simp) ?_
            refine' AllReady.cons ?hoc6t27 (fun K hK => ?stc6t27) AllReady.nil
            case hoc6t27 => (simp only [List.getElem?_toArray, List.getElem?_cons_succ, List.getElem?_cons_zero]; rfl)
            go_simp
            refine (MK.out v26 w.heap.size _ (GD.out.below hS.bel H2D.out) (KD.out.below hS.bel) hS.sees).mono ?_
            rintro e v27 ⟨rfl, hb⟩
            refine hK _ _ ?_
            clear hK K
            replace hS := hS.below hb
            clear hb
            try simp only [Act.put, List.setIfInBounds_toArray, List.set_cons_succ, List.set_cons_zero]
            refine wpAny_ready (rs := [8]) (by kernel_rfl) (by simp) ?_
            refine' AllReady.cons ?hoc8t28 (fun K hK => ?stc8t28) AllReady.nil
            case hoc8t28 => (simp only [List.getElem?_toArray, List.getElem?_cons_succ, List.getElem?_cons_zero]; rfl)
            rw [if_pos (by rfl)]
            refine wp_store_row 27 (.tmp 15) (.tmp 59) rfl _ (bcells (F)) rfl rfl 27 _ (hS.row _ rfl).2 IF.out ZF.out OF.out ?_
            refine hK _ _ ?_
            clear hK K
            simp only [Act.put]
            refine wpAny_done (by kernel_rfl) ?_ _
            exact HKx.out _ _ _ _ _ _ ((hD.trans (hS.bel.mono hD.size)).trans (below_row _ _ (Nat.le_trans hD.size (hS.row _ rfl).1))) (setRow_heap _ _ _ _ _ _ (hS.row _ rfl).2)
        refine' AllReady.cons ?hoc7t29 (fun K hK => ?stc7t29) AllReady.nil
        case hoc7t29 => (simp only [List.getElem?_toArray, List.getElem?_cons_succ, List.getElem?_cons_zero]; rfl)
        case stc7t29 =>
          go_simp
          refine hK _ _ ?_
          clear hK K
          try simp only [Act.put, List.setIfInBounds_toArray, List.set_cons_succ, List.set_cons_zero]
          replace hS := hS.mk_seven Z27 HZ.out
          generalize v21.alloc (.cells Z27 27) = v29 at hS ⊢
          refine wpAny_ready (rs := [5]) (by kernel_rfl) (by simp) ?_
          refine' AllReady.cons ?hoc5t30 (fun K hK => ?stc5t30) AllReady.nil
          case hoc5t30 => (simp only [List.getElem?_toArray, List.getElem?_cons_succ, List.getElem?_cons_zero]; rfl)
          rw [if_pos (by rfl)]
          obtain ⟨q5t30, k5t30, v30, hr, hT⟩ := hS.mk_five LNM.out
          refine wp_app (.tmp 56) (.tmp 57) rfl rfl rfl rfl hr ?_
          refine hK _ _ ?_
          clear hK K hr hS
          have hS := hT
          clear hT
          simp only [Act.put, List.setIfInBounds_toArray, List.set_cons_succ, List.set_cons_zero]
          refine wpAny_ready (rs := [6]) (by kernel_rfl) (by simp) ?_
          refine' AllReady.cons ?hoc6t31 (fun K hK => ?stc6t31) AllReady.nil
          case hoc6t31 => (simp only [List.getElem?_toArray, List.getElem?_cons_succ, List.getElem?_cons_zero]; rfl)
          go_simp
          refine (MK.out v30 w.heap.size _ (GD.out.below hS.bel H2D.out) (KD.out.below hS.bel) hS.sees).mono ?_
          rintro e v31 ⟨rfl, hb⟩
          refine hK _ _ ?_
          clear hK K
          replace hS := hS.below hb
          clear hb
          try simp only [Act.put, List.setIfInBounds_toArray, List.set_cons_succ, List.set_cons_zero]
          refine wpAny_ready (rs := [8]) (by kernel_rfl) (by simp) ?_
          refine' AllReady.cons ?hoc8t32 (fun K hK => ?stc8t32) AllReady.nil
          case hoc8t32 => (simp only [List.getElem?_toArray, List.getElem?_cons_succ, List.getElem?_cons_zero]; rfl)
          rw [if_pos (by rfl)]
          refine wp_store_row 27 (.tmp 15) (.tmp 59) rfl _ (bcells (F)) rfl rfl 27 _ (hS.row _ rfl).2 IF.out ZF.out OF.out ?_
          refine hK _ _ ?_
          clear hK K
          simp only [Act.put]
          refine wpAny_done (by kernel_rfl) ?_ _
          exact HKx.out _ _ _ _ _ _ ((hD.trans (hS.bel.mono hD.size)).trans (below_row _ _ (Nat.le_trans hD.size (hS.row _ rfl).1))) (setRow_heap _ _ _ _ _ _ (hS.row _ rfl).2)
      refine' AllReady.cons ?hoc7t33 (fun K hK => ?stc7t33) AllReady.nil
      case hoc7t33 => (simp only [List.getElem?_toArray, List.getElem?_cons_succ, List.getElem?_cons_zero]; rfl)
      case stc7t33 =>
        go_simp
        refine hK _ _ ?_
        clear hK K
        try simp only [Act.put, List.setIfInBounds_toArray, List.set_cons_succ, List.set_cons_zero]
        replace hS := hS.mk_seven Z27 HZ.out
        generalize v20.alloc (.cells Z27 27) = v33 at hS ⊢
        refine wpAny_ready (rs := [3]) (by kernel_rfl) (by simp) ?_
        refine' AllReady.cons ?hoc3t34 (fun K hK => ?stc3t34) AllReady.nil
        case hoc3t34 => (simp only [List.getElem?_toArray, List.getElem?_cons_succ, List.getElem?_cons_zero]; rfl)
        rw [if_pos (by rfl)]
        obtain ⟨q3t34, k3t34, v34, hr, hT⟩ := hS.mk_three SN.out LNM.out
        refine wp_app (.tmp 54) (.tmp 55) rfl rfl rfl rfl hr ?_
        refine hK _ _ ?_
        clear hK K hr hS
        have hS := hT
        clear hT
        simp only [Act.put, List.setIfInBounds_toArray, List.set_cons_succ, List.set_cons_zero]
        refine wpAny_ready (rs := [5]) (by kernel_rfl) (by simp) ?_
        refine' AllReady.cons ?hoc5t35 (fun K hK => ?stc5t35) AllReady.nil
        case hoc5t35 => (simp only [List.getElem?_toArray, List.getElem?_cons_succ, List.getElem?_cons_zero]; rfl)
        rw [if_pos (by rfl)]
        obtain ⟨q5t35, k5t35, v35, hr, hT⟩ := hS.mk_five LNM.out
        refine wp_app (.tmp 56) (.tmp 57) rfl rfl rfl rfl hr ?_
        refine hK _ _ ?_
        clear hK K hr hS
        have hS := hT
        clear hT
        simp only [Act.put, List.setIfInBounds_toArray, List.set_cons_succ, List.set_cons_zero]
        refine wpAny_ready (rs := [6]) (by kernel_rfl) (by simp) ?_
        refine' AllReady.cons ?hoc6t36 (fun K hK => ?stc6t36) AllReady.nil
        case hoc6t36 => (simp only [List.getElem?_toArray, List.getElem?_cons_succ, List.getElem?_cons_zero]; rfl)
        go_simp
        refine (MK.out v35 w.heap.size _ (GD.out.below hS.bel H2D.out) (KD.out.below hS.bel) hS.sees).mono ?_
        rintro e v36 ⟨rfl, hb⟩
        refine hK _ _ ?_
        clear hK K
        replace hS := hS.below hb
        clear hb
        try simp only [Act.put, List.setIfInBounds_toArray, List.set_cons_succ, List.set_cons_zero]
        refine wpAny_ready (rs := [8]) (by kernel_rfl) (by simp) ?_
        refine' AllReady.cons ?hoc8t37 (fun K hK => ?stc8t37) AllReady.nil
        case hoc8t37 => (simp only [List.getElem?_toArray, List.getElem?_cons_succ, List.getElem?_cons_zero]; rfl)
        rw [if_pos (by rfl)]
        refine wp_store_row 27 (.tmp 15) (.tmp 59) rfl _ (bcells (F)) rfl rfl 27 _ (hS.row _ rfl).2 IF.out ZF.out OF.out ?_
        refine hK _ _ ?_
        clear hK K
        simp only [Act.put]
        refine wpAny_done (by kernel_rfl) ?_ _
        exact HKx.out _ _ _ _ _ _ ((hD.trans (hS.bel.mono hD.size)).trans (below_row _ _ (Nat.le_trans hD.size (hS.row _ rfl).1))) (setRow_heap _ _ _ _ _ _ (hS.row _ rfl).2)
    refine' AllReady.cons ?hoc7t38 (fun K hK => ?stc7t38) AllReady.nil
    case hoc7t38 => (simp only [List.getElem?_toArray, List.getElem?_cons_succ, List.getElem?_cons_zero]; rfl)
    case stc7t38 =>
      go_simp
      refine hK _ _ ?_
      clear hK K
      try simp only [Act.put, List.setIfInBounds_toArray, List.set_cons_succ, List.set_cons_zero]
      replace hS := hS.mk_seven Z27 HZ.out
      generalize v1.alloc (.cells Z27 27) = v38 at hS ⊢
      refine wpAny_ready (rs := [3, 4]) (by kernel_rfl) (by simp) ?_
      refine' AllReady.cons ?hoc3t39 (fun K hK => ?stc3t39) ?more3t39
      case hoc3t39 => (simp only [List.getElem?_toArray, List.getElem?_cons_succ, List.getElem?_cons_zero]; rfl)
      case stc3t39 =>
        rw [if_pos (by rfl)]
        obtain ⟨q3t39, k3t39, v39, hr, hT⟩ := hS.mk_three SN.out LNM.out
        refine wp_app (.tmp 54) (.tmp 55) rfl rfl rfl rfl hr ?_
        refine hK _ _ ?_
        clear hK K hr hS
        have hS := hT
        clear hT
        simp only [Act.put, List.setIfInBounds_toArray, List.set_cons_succ, List.set_cons_zero]
        refine wpAny_ready (rs := [4]) (by kernel_rfl) (by simp) ?_
        refine' AllReady.cons ?hoc4t40 (fun K hK => ?stc4t40) AllReady.nil
        case hoc4t40 => (simp only [List.getElem?_toArray, List.getElem?_cons_succ, List.getElem?_cons_zero]; rfl)
        go_simp
        refine hK _ _ ?_
        clear hK K
        try simp only [Act.put, List.setIfInBounds_toArray, List.set_cons_succ, List.set_cons_zero]
        replace hS := hS.mk_four
        generalize v39.alloc (.cells #[.int .u8 1] 5) = v40 at hS ⊢
        refine wpAny_ready (rs := [5]) (by kernel_rfl) (by simp) ?_
        refine' AllReady.cons ?hoc5t41 (fun K hK => ?stc5t41) AllReady.nil
        case hoc5t41 => (simp only [List.getElem?_toArray, List.getElem?_cons_succ, List.getElem?_cons_zero]; rfl)
        rw [if_pos (by rfl)]
        obtain ⟨q5t41, k5t41, v41, hr, hT⟩ := hS.mk_five LNM.out
        refine wp_app (.tmp 56) (.tmp 57) rfl rfl rfl rfl hr ?_
        refine hK _ _ ?_
        clear hK K hr hS
        have hS := hT
        clear hT
        simp only [Act.put, List.setIfInBounds_toArray, List.set_cons_succ, List.set_cons_zero]
        refine wpAny_ready (rs := [6]) (by kernel_rfl) (by simp) ?_
        refine' AllReady.cons ?hoc6t42 (fun K hK => ?stc6t42) AllReady.nil
        case hoc6t42 => (simp only [List.getElem?_toArray, List.getElem?_cons_succ, List.getElem?_cons_zero]; rfl)
        go_simp
        refine (MK.out v41 w.heap.size _ (GD.out.below hS.bel H2D.out) (KD.out.below hS.bel) hS.sees).mono ?_
        rintro e v42 ⟨rfl, hb⟩
        refine hK _ _ ?_
        clear hK K
        replace hS := hS.below hb
        clear hb
        try simp only [Act.put, List.setIfInBounds_toArray, List.set_cons_succ, List.set_cons_zero]
        refine wpAny_ready (rs := [8]) (by kernel_rfl) (by simp) ?_
        refine' AllReady.cons ?hoc8t43 (fun K hK => ?stc8t43) AllReady.nil
        case hoc8t43 => (simp only [List.getElem?_toArray, List.getElem?_cons_succ, List.getElem?_cons_zero]; rfl)
        rw [if_pos (by rfl)]
        refine wp_store_row 27 (.tmp 15) (.tmp 59) rfl _ (bcells (F)) rfl rfl 27 _ (hS.row _ rfl).2 IF.out ZF.out OF.out ?_
        refine hK _ _ ?_
        clear hK K
        simp only [Act.put]
        refine wpAny_done (by kernel_rfl) ?_ _
        exact HKx.out _ _ _ _ _ _ ((hD.trans (hS.bel.mono hD.size)).trans (below_row _ _ (Nat.le_trans hD.size (hS.row _ rfl).1))) (setRow_heap _ _ _ _ _ _ (hS.row _ rfl).2)
      refine' AllReady.cons ?hoc4t44 (fun K hK => ?stc4t44) AllReady.nil
      case hoc4t44 => (simp only [List.getElem?_toArray, List.getElem?_cons_succ, List.getElem?_cons_zero]; rfl)
      case stc4t44 =>
        go_simp
        refine hK _ _ ?_
        clear hK K
        try simp only [Act.put, List.setIfInBounds_toArray, List.set_cons_succ, List.set_cons_zero]
        replace hS := hS.mk_four
        generalize v38.alloc (.cells #[.int .u8 1] 5) = v44 at hS ⊢
        refine wpAny_ready (rs := [3]) (by kernel_rfl) (by simp) ?_
        refine' AllReady.cons ?hoc3t45 (fun K hK => ?stc3t45) AllReady.nil
        case hoc3t45 => (simp only [List.getElem?_toArray, List.getElem?_cons_succ, List.getElem?_cons_zero]; rfl)
        rw [if_pos (by rfl)]
        obtain ⟨q3t45, k3t45, v45, hr, hT⟩ := hS.mk_three SN.out LNM.out
        refine wp_app (.tmp 54) (.tmp 55) rfl rfl rfl rfl hr ?_
        refine hK _ _ ?_
        clear hK K hr hS
        have hS := hT
        clear hT
        simp only [Act.put, List.setIfInBounds_toArray, List.set_cons_succ, List.set_cons_zero]
        refine wpAny_ready (rs := [5]) (by kernel_rfl) (by simp) ?_
        refine' AllReady.cons ?hoc5t46 (fun K hK => ?stc5t46) AllReady.nil
        case hoc5t46 => (simp only [List.getElem?_toArray, List.getElem?_cons_succ, List.getElem?_cons_zero]; rfl)
        rw [if_pos (by rfl)]
        obtain ⟨q5t46, k5t46, v46, hr, hT⟩ := hS.mk_five LNM.out
        refine wp_app (.tmp 56) (.tmp 57) rfl rfl rfl rfl hr ?_
        refine hK _ _ ?_
        clear hK K hr hS
        have hS := hT
        clear hT
        simp only [Act.put, List.setIfInBounds_toArray, List.set_cons_succ, List.set_cons_zero]
        refine wpAny_ready (rs := [6]) (by kernel_rfl) (by simp) ?_
        refine' AllReady.cons ?hoc6t47 (fun K hK => ?stc6t47) AllReady.nil
        case hoc6t47 => (simp only [List.getElem?_toArray, List.getElem?_cons_succ, List.getElem?_cons_zero]; rfl)
        go_simp
        refine (MK.out v46 w.heap.size _ (GD.out.below hS.bel H2D.out) (KD.out.below hS.bel) hS.sees).mono ?_
        rintro e v47 ⟨rfl, hb⟩
        refine hK _ _ ?_
        clear hK K
        replace hS := hS.below hb
        clear hb
        try simp only [Act.put, List.setIfInBounds_toArray, List.set_cons_succ, List.set_cons_zero]
        refine wpAny_ready (rs := [8]) (by kernel_rfl) (by simp) ?_
        refine' AllReady.cons ?hoc8t48 (fun K hK => ?stc8t48) AllReady.nil
        case hoc8t48 => (simp only [List.getElem?_toArray, List.getElem?_cons_succ, List.getElem?_cons_zero]; rfl)
        rw [if_pos (by rfl)]
        refine wp_store_row 27 (.tmp 15) (.tmp 59) rfl _ (bcells (F)) rfl rfl 27 _ (hS.row _ rfl).2 IF.out ZF.out OF.out ?_
        refine hK _ _ ?_
        clear hK K
        simp only [Act.put]
        refine wpAny_done (by kernel_rfl) ?_ _
        exact HKx.out _ _ _ _ _ _ ((hD.trans (hS.bel.mono hD.size)).trans (below_row _ _ (Nat.le_trans hD.size (hS.row _ rfl).1))) (setRow_heap _ _ _ _ _ _ (hS.row _ rfl).2)
  refine' AllReady.cons ?hoc4t49 (fun K hK => ?stc4t49) ?more4t49
  case hoc4t49 => (simp only [List.getElem?_toArray, List.getElem?_cons_succ, List.getElem?_cons_zero]; rfl)
  case stc4t49 =>
    go_simp
    refine hK _ _ ?_
    clear hK K
    try simp only [Act.put, List.setIfInBounds_toArray, List.set_cons_succ, List.set_cons_zero]
    replace hS := hS.mk_four
    generalize wd.alloc (.cells #[.int .u8 1] 5) = v49 at hS ⊢
    refine wpAny_ready (rs := [1, 7]) (by kernel_rfl) (by simp) ?_
    refine' AllReady.cons ?hoc1t50 (fun K hK => ?stc1t50) ?more1t50
    case hoc1t50 => (simp only [List.getElem?_toArray, List.getElem?_cons_succ, List.getElem?_cons_zero]; rfl)
    case stc1t50 =>
      go_simp
      refine hK _ _ ?_
      clear hK K
      try simp only [Act.put, List.setIfInBounds_toArray, List.set_cons_succ, List.set_cons_zero]
      replace hS := hS.mk_one
      generalize v49.alloc (.cells #[] 5) = v50 at hS ⊢
      refine wpAny_ready (rs := [3, 7]) (by kernel_rfl) (by simp) ?_
      refine' AllReady.cons ?hoc3t51 (fun K hK => ?stc3t51) ?more3t51
      case hoc3t51 => (simp only [List.getElem?_toArray, List.getElem?_cons_succ, List.getElem?_cons_zero]; rfl)
      case stc3t51 =>
        rw [if_pos (by rfl)]
        obtain ⟨q3t51, k3t51, v51, hr, hT⟩ := hS.mk_three SN.out LNM.out
        refine wp_app (.tmp 54) (.tmp 55) rfl rfl rfl rfl hr ?_
        refine hK _ _ ?_
        clear hK K hr hS
        have hS := hT
        clear hT
        simp only [Act.put, List.setIfInBounds_toArray, List.set_cons_succ, List.set_cons_zero]
        refine wpAny_ready (rs := [5, 7]) (by kernel_rfl) (by simp) ?_
        refine' AllReady.cons ?hoc5t52 (fun K hK => ?stc5t52) ?more5t52
        case hoc5t52 => (simp only [List.getElem?_toArray, List.getElem?_cons_succ, List.getElem?_cons_zero]; rfl)
        case stc5t52 =>
          rw [if_pos (by rfl)]
          obtain ⟨q5t52, k5t52, v52, hr, hT⟩ := hS.mk_five LNM.out
          refine wp_app (.tmp 56) (.tmp 57) rfl rfl rfl rfl hr ?_
          refine hK _ _ ?_
          clear hK K hr hS
          have hS := hT
          clear hT
          simp only [Act.put, List.setIfInBounds_toArray, List.set_cons_succ, List.set_cons_zero]
          refine wpAny_ready (rs := [6, 7]) (by kernel_rfl) (by simp) ?_
          refine' AllReady.cons ?hoc6t53 (fun K hK => ?stc6t53) ?more6t53
          case hoc6t53 => (simp only [List.getElem?_toArray, List.getElem?_cons_succ, List.getElem?_cons_zero]; rfl)
          case stc6t53 =>
            go_simp
            refine (MK.out v52 w.heap.size _ (GD.out.below hS.bel H2D.out) (KD.out.below hS.bel) hS.sees).mono ?_
            rintro e v53 ⟨rfl, hb⟩
            refine hK _ _ ?_
            clear hK K
            replace hS := hS.below hb
            clear hb
            try simp only [Act.put, List.setIfInBounds_toArray, List.set_cons_succ, List.set_cons_zero]
            refine wpAny_ready (rs := [7]) (by kernel_rfl) (by simp) ?_
            refine' AllReady.cons ?hoc7t54 (fun K hK => ?stc7t54) AllReady.nil
            case hoc7t54 => (simp only [List.getElem?_toArray, List.getElem?_cons_succ, List.getElem?_cons_zero]; rfl)
            go_simp
            refine hK _ _ ?_
            clear hK K
            try simp only [Act.put, List.setIfInBounds_toArray, List.set_cons_succ, List.set_cons_zero]
            replace hS := hS.mk_seven Z27 HZ.out
            generalize v53.alloc (.cells Z27 27) = v54 at hS ⊢
            refine wpAny_ready (rs := [8]) (by kernel_rfl) (by simp) ?_
            refine' AllReady.cons ?hoc8t55 (fun K hK => ?stc8t55) AllReady.nil
            case hoc8t55 => (simp only [List.getElem?_toArray, List.getElem?_cons_succ, List.getElem?_cons_zero]; rfl)
            rw [if_pos (by rfl)]
            refine wp_store_row 27 (.tmp 15) (.tmp 59) rfl _ (bcells (F)) rfl rfl 27 _ (hS.row _ rfl).2 IF.out ZF.out OF.out ?_
            refine hK _ _ ?_
            clear hK K
            simp only [Act.put]
            refine wpAny_done (by kernel_rfl) ?_ _
            exact HKx.out _ _ _ _ _ _ ((hD.trans (hS.bel.mono hD.size)).trans (below_row _ _ (Nat.le_trans hD.size (hS.row _ rfl).1))) (setRow_heap _ _ _ _ _ _ (hS.row _ rfl).2)
          refine' AllReady.cons ?hoc7t56 (fun K hK => ?stc7t56) AllReady.nil
          case hoc7t56 => (simp only [List.getElem?_toArray, List.getElem?_cons_succ, List.getElem?_cons_zero]; rfl)
          case stc7t56 =>
            go_simp
            refine hK _ _ ?_
            clear hK K
            try simp only [Act.put, List.setIfInBounds_toArray, List.set_cons_succ, List.set_cons_zero]
            replace hS := hS.mk_seven Z27 HZ.out
            generalize v52.alloc (.cells Z27 27) = v56 at hS ⊢
            refine wpAny_ready (rs := [6]) (by kernel_rfl) (by simp) ?_
            refine' AllReady.cons ?hoc6t57 (fun K hK => ?stc6t57) AllReady.nil
            case hoc6t57 => (simp only [List.getElem?_toArray, List.getElem?_cons_succ, List.getElem?_cons_zero]; rfl)
            go_simp
            refine (MK.out v56 w.heap.size _ (GD.out.below hS.bel H2D.out) (KD.out.below hS.bel) hS.sees).mono ?_
            rintro e v57 ⟨rfl, hb⟩
            refine hK _ _ ?_
            clear hK K
            replace hS := hS.below hb
            clear hb
            try simp only [Act.put, List.setIfInBounds_toArray, List.set_cons_succ, List.set_cons_zero]
            refine wpAny_ready (rs := [8]) (by kernel_rfl) (by simp) ?_
            refine' AllReady.cons ?hoc8t58 (fun K hK => ?stc8t58) AllReady.nil
            case hoc8t58 => (simp only [List.getElem?_toArray, List.getElem?_cons_succ, List.getElem?_cons_zero]; rfl)
            rw [if_pos (by rfl)]
            refine wp_store_row 27 (.tmp 15) (.tmp 59) rfl _ (bcells (F)) rfl rfl 27 _ (hS.row _ rfl).2 IF.out ZF.out OF.out ?_
            refine hK _ _ ?_
            clear hK K
            simp only [Act.put]
            refine wpAny_done (by kernel_rfl) ?_ _
            exact HKx.out _ _ _ _ _ _ ((hD.trans (hS.bel.mono hD.size)).trans (below_row _ _ (Nat.le_trans hD.size (hS.row _ rfl).1))) (setRow_heap _ _ _ _ _ _ (hS.row _ rfl).2)
        refine' AllReady.cons ?hoc7t59 (fun K hK => ?stc7t59) AllReady.nil
        case hoc7t59 => (simp only [List.getElem?_toArray, List.getElem?_cons_succ, List.getElem?_cons_zero]; rfl)
        case stc7t59 =>
          go_simp
          refine hK _ _ ?_
          clear hK K
          try simp only [Act.put, List.setIfInBounds_toArray, List.set_cons_succ, List.set_cons_zero]
          replace hS := hS.mk_seven Z27 HZ.out
          generalize v51.alloc (.cells Z27 27) = v59 at hS ⊢
          refine wpAny_ready (rs := [5]) (by kernel_rfl) (by simp) ?_
          refine' AllReady.cons ?hoc5t60 (fun K hK => ?stc5t60) AllReady.nil
          case hoc5t60 => (simp only [List.getElem?_toArray, List.getElem?_cons_succ, List.getElem?_cons_zero]; rfl)
          rw [if_pos (by rfl)]
          obtain ⟨q5t60, k5t60, v60, hr, hT⟩ := hS.mk_five LNM.out
          refine wp_app (.tmp 56) (.tmp 57) rfl rfl rfl rfl hr ?_
          refine hK _ _ ?_
          clear hK K hr hS
          have hS := hT
          clear hT
          simp only [Act.put, List.setIfInBounds_toArray, List.set_cons_succ, List.set_cons_zero]
          refine wpAny_ready (rs := [6]) (by kernel_rfl) (by simp) ?_
          refine' AllReady.cons ?hoc6t61 (fun K hK => ?stc6t61) AllReady.nil
          case hoc6t61 => (simp only [List.getElem?_toArray, List.getElem?_cons_succ, List.getElem?_cons_zero]; rfl)
          go_simp
          refine (MK.out v60 w.heap.size _ (GD.out.below hS.bel H2D.out) (KD.out.below hS.bel) hS.sees).mono ?_
          rintro e v61 ⟨rfl, hb⟩
          refine hK _ _ ?_
          clear hK K
          replace hS := hS.below hb
          clear hb
          try simp only [Act.put, List.setIfInBounds_toArray, List.set_cons_succ, List.set_cons_zero]
          refine wpAny_ready (rs := [8]) (by kernel_rfl) (by simp) ?_
          refine' AllReady.cons ?hoc8t62 (fun K hK => ?stc8t62) AllReady.nil
          case hoc8t62 => (simp only [List.getElem?_toArray, List.getElem?_cons_succ, List.getElem?_cons_zero]; rfl)
          rw [if_pos (by rfl)]
          refine wp_store_row 27 (.tmp 15) (.tmp 59) rfl _ (bcells (F)) rfl rfl 27 _ (hS.row _ rfl).2 IF.out ZF.out OF.out ?_
          refine hK _ _ ?_
          clear hK K
          simp only [Act.put]
          refine wpAny_done (by kernel_rfl) ?_ _
          exact HKx.out _ _ _ _ _ _ ((hD.trans (hS.bel.mono hD.size)).trans (below_row _ _ (Nat.le_trans hD.size (hS.row _ rfl).1))) (setRow_heap _ _ _ _ _ _ (hS.row _ rfl).2)
      refine' AllReady.cons ?hoc7t63 (fun K hK => ?stc7t63) AllReady.nil
      case hoc7t63 => (simp only [List.getElem?_toArray, List.getElem?_cons_succ, List.getElem?_cons_zero]; rfl)
      case stc7t63 =>
        go_simp
        refine hK _ _ ?_
        clear hK K
        try simp only [Act.put, List.setIfInBounds_toArray, List.set_cons_succ, List.set_cons_zero]
        replace hS := hS.mk_seven Z27 HZ.out
        generalize v50.alloc (.cells Z27 27) = v63 at hS ⊢
        refine wpAny_ready (rs := [3]) (by kernel_rfl) (by simp) ?_
        refine' AllReady.cons ?hoc3t64 (fun K hK => ?stc3t64) AllReady.nil
        case hoc3t64 => (simp only [List.getElem?_toArray, List.getElem?_cons_succ, List.getElem?_cons_zero]; rfl)
        rw [if_pos (by rfl)]
        obtain ⟨q3t64, k3t64, v64, hr, hT⟩ := hS.mk_three SN.out LNM.out
        refine wp_app (.tmp 54) (.tmp 55) rfl rfl rfl rfl hr ?_
        refine hK _ _ ?_
        clear hK K hr hS
        have hS := hT
        clear hT
        simp only [Act.put, List.setIfInBounds_toArray, List.set_cons_succ, List.set_cons_zero]
        refine wpAny_ready (rs := [5]) (by kernel_rfl) (by simp) ?_
        refine' AllReady.cons ?hoc5t65 (fun K hK => ?stc5t65) AllReady.nil
        case hoc5t65 => (simp only [List.getElem?_toArray, List.getElem?_cons_succ, List.getElem?_cons_zero]; rfl)
        rw [if_pos (by rfl)]
        obtain ⟨q5t65, k5t65, v65, hr, hT⟩ := hS.mk_five LNM.out
        refine wp_app (.tmp 56) (.tmp 57) rfl rfl rfl rfl hr ?_
        refine hK _ _ ?_
        clear hK K hr hS
        have hS := hT
        clear hT
        simp only [Act.put, List.setIfInBounds_toArray, List.set_cons_succ, List.set_cons_zero]
        refine wpAny_ready (rs := [6]) (by kernel_rfl) (by simp) ?_
        refine' AllReady.cons ?hoc6t66 (fun K hK => ?stc6t66) AllReady.nil
        case hoc6t66 => (simp only [List.getElem?_toArray, List.getElem?_cons_succ, List.getElem?_cons_zero]; rfl)
        go_simp
        refine (MK.out v65 w.heap.size _ (GD.out.below hS.bel H2D.out) (KD.out.below hS.bel) hS.sees).mono ?_
        rintro e v66 ⟨rfl, hb⟩
        refine hK _ _ ?_
        clear hK K
        replace hS := hS.below hb
        clear hb
        try simp only [Act.put, List.setIfInBounds_toArray, List.set_cons_succ, List.set_cons_zero]
        refine wpAny_ready (rs := [8]) (by kernel_rfl) (by simp) ?_
        refine' AllReady.cons ?hoc8t67 (fun K hK => ?stc8t67) AllReady.nil
        case hoc8t67 => (simp only [List.getElem?_toArray, List.getElem?_cons_succ, List.getElem?_cons_zero]; rfl)
        rw [if_pos (by rfl)]
        refine wp_store_row 27 (.tmp 15) (.tmp 59) rfl _ (bcells (F)) rfl rfl 27 _ (hS.row _ rfl).2 IF.out ZF.out OF.out ?_
        refine hK _ _ ?_
        clear hK K
        simp only [Act.put]
        refine wpAny_done (by kernel_rfl) ?_ _
        exact HKx.out _ _ _ _ _ _ ((hD.trans (hS.bel.mono hD.size)).trans (below_row _ _ (Nat.le_trans hD.size (hS.row _ rfl).1))) (setRow_heap _ _ _ _ _ _ (hS.row _ rfl).2)
    refine' AllReady.cons ?hoc7t68 (fun K hK => ?stc7t68) AllReady.nil
    case hoc7t68 => (simp only [List.getElem?_toArray, List.getElem?_cons_succ, List.getElem?_cons_zero]; rfl)
    case stc7t68 =>
      go_simp
      refine hK _ _ ?_
      clear hK K
      try simp only [Act.put, List.setIfInBounds_toArray, List.set_cons_succ, List.set_cons_zero]
      replace hS := hS.mk_seven Z27 HZ.out
      generalize v49.alloc (.cells Z27 27) = v68 at hS ⊢
      refine wpAny_ready (rs := [1]) (by kernel_rfl) (by simp) ?_
      refine' AllReady.cons ?hoc1t69 (fun K hK => ?stc1t69) AllReady.nil
      case hoc1t69 => (simp only [List.getElem?_toArray, List.getElem?_cons_succ, List.getElem?_cons_zero]; rfl)
      go_simp
      refine hK _ _ ?_
      clear hK K
      try simp only [Act.put, List.setIfInBounds_toArray, List.set_cons_succ, List.set_cons_zero]
      replace hS := hS.mk_one
      generalize v68.alloc (.cells #[] 5) = v69 at hS ⊢
      refine wpAny_ready (rs := [3]) (by kernel_rfl) (by simp) ?_
      refine' AllReady.cons ?hoc3t70 (fun K hK => ?stc3t70) AllReady.nil
      case hoc3t70 => (simp only [List.getElem?_toArray, List.getElem?_cons_succ, List.getElem?_cons_zero]; rfl)
      rw [if_pos (by rfl)]
      obtain ⟨q3t70, k3t70, v70, hr, hT⟩ := hS.mk_three SN.out LNM.out
      refine wp_app (.tmp 54) (.tmp 55) rfl rfl rfl rfl hr ?_
      refine hK _ _ ?_
      clear hK K hr hS
      have hS := hT
      clear hT
      simp only [Act.put, List.setIfInBounds_toArray, List.set_cons_succ, List.set_cons_zero]
      refine wpAny_ready (rs := [5]) (by kernel_rfl) (by simp) ?_
      refine' AllReady.cons ?hoc5t71 (fun K hK => ?stc5t71) AllReady.nil
      case hoc5t71 => (simp only [List.getElem?_toArray, List.getElem?_cons_succ, List.getElem?_cons_zero]; rfl)
      rw [if_pos (by rfl)]
      obtain ⟨q5t71, k5t71, v71, hr, hT⟩ := hS.mk_five LNM.out
      refine wp_app (.tmp 56) (.tmp 57) rfl rfl rfl rfl hr ?_
      refine hK _ _ ?_
      clear hK K hr hS
      have hS := hT
      clear hT
      simp only [Act.put, List.setIfInBounds_toArray, List.set_cons_succ, List.set_cons_zero]
      refine wpAny_ready (rs := [6]) (by kernel_rfl) (by simp) ?_
      refine' AllReady.cons ?hoc6t72 (fun K hK => ?stc6t72) AllReady.nil
      case hoc6t72 => (simp only [List.getElem?_toArray, List.getElem?_cons_succ, List.getElem?_cons_zero]; rfl)
      go_simp
      refine (MK.out v71 w.heap.size _ (GD.out.below hS.bel H2D.out) (KD.out.below hS.bel) hS.sees).mono ?_
      rintro e v72 ⟨rfl, hb⟩
      refine hK _ _ ?_
      clear hK K
      replace hS := hS.below hb
      clear hb
      try simp only [Act.put, List.setIfInBounds_toArray, List.set_cons_succ, List.set_cons_zero]
      refine wpAny_ready (rs := [8]) (by kernel_rfl) (by simp) ?_
      refine' AllReady.cons ?hoc8t73 (fun K hK => ?stc8t73) AllReady.nil
      case hoc8t73 => (simp only [List.getElem?_toArray, List.getElem?_cons_succ, List.getElem?_cons_zero]; rfl)
      rw [if_pos (by rfl)]
      refine wp_store_row 27 (.tmp 15) (.tmp 59) rfl _ (bcells (F)) rfl rfl 27 _ (hS.row _ rfl).2 IF.out ZF.out OF.out ?_
      refine hK _ _ ?_
      clear hK K
      simp only [Act.put]
      refine wpAny_done (by kernel_rfl) ?_ _
      exact HKx.out _ _ _ _ _ _ ((hD.trans (hS.bel.mono hD.size)).trans (below_row _ _ (Nat.le_trans hD.size (hS.row _ rfl).1))) (setRow_heap _ _ _ _ _ _ (hS.row _ rfl).2)
  refine' AllReady.cons ?hoc7t74 (fun K hK => ?stc7t74) AllReady.nil
  case hoc7t74 => (simp only [List.getElem?_toArray, List.getElem?_cons_succ, List.getElem?_cons_zero]; rfl)
  case stc7t74 =>
    go_simp
    refine hK _ _ ?_
    clear hK K
    try simp only [Act.put, List.setIfInBounds_toArray, List.set_cons_succ, List.set_cons_zero]
    replace hS := hS.mk_seven Z27 HZ.out
    generalize wd.alloc (.cells Z27 27) = v74 at hS ⊢
    refine wpAny_ready (rs := [1, 4]) (by kernel_rfl) (by simp) ?_
    refine' AllReady.cons ?hoc1t75 (fun K hK => ?stc1t75) ?more1t75
    case hoc1t75 => (simp only [List.getElem?_toArray, List.getElem?_cons_succ, List.getElem?_cons_zero]; rfl)
    case stc1t75 =>
      go_simp
      refine hK _ _ ?_
      clear hK K
      try simp only [Act.put, List.setIfInBounds_toArray, List.set_cons_succ, List.set_cons_zero]
      replace hS := hS.mk_one
      generalize v74.alloc (.cells #[] 5) = v75 at hS ⊢
      refine wpAny_ready (rs := [3, 4]) (by kernel_rfl) (by simp) ?_
      refine' AllReady.cons ?hoc3t76 (fun K hK => ?stc3t76) ?more3t76
      case hoc3t76 => (simp only [List.getElem?_toArray, List.getElem?_cons_succ, List.getElem?_cons_zero]; rfl)
      case stc3t76 =>
        rw [if_pos (by rfl)]
        obtain ⟨q3t76, k3t76, v76, hr, hT⟩ := hS.mk_three SN.out LNM.out
        refine wp_app (.tmp 54) (.tmp 55) rfl rfl rfl rfl hr ?_
        refine hK _ _ ?_
        clear hK K hr hS
        have hS := hT
        clear hT
        simp only [Act.put, List.setIfInBounds_toArray, List.set_cons_succ, List.set_cons_zero]
        refine wpAny_ready (rs := [4]) (by kernel_rfl) (by simp) ?_
        refine' AllReady.cons ?hoc4t77 (fun K hK => ?stc4t77) AllReady.nil
        case hoc4t77 => (simp only [List.getElem?_toArray, List.getElem?_cons_succ, List.getElem?_cons_zero]; rfl)
        go_simp
        refine hK _ _ ?_
        clear hK K
        try simp only [Act.put, List.setIfInBounds_toArray, List.set_cons_succ, List.set_cons_zero]
        replace hS := hS.mk_four
        generalize v76.alloc (.cells #[.int .u8 1] 5) = v77 at hS ⊢
        refine wpAny_ready (rs := [5]) (by kernel_rfl) (by simp) ?_
        refine' AllReady.cons ?hoc5t78 (fun K hK => ?stc5t78) AllReady.nil
        case hoc5t78 => (simp only [List.getElem?_toArray, List.getElem?_cons_succ, List.getElem?_cons_zero]; rfl)
        rw [if_pos (by rfl)]
        obtain ⟨q5t78, k5t78, v78, hr, hT⟩ := hS.mk_five LNM.out
        refine wp_app (.tmp 56) (.tmp 57) rfl rfl rfl rfl hr ?_
        refine hK _ _ ?_
        clear hK K hr hS
        have hS := hT
        clear hT
        simp only [Act.put, List.setIfInBounds_toArray, List.set_cons_succ, List.set_cons_zero]
        refine wpAny_ready (rs := [6]) (by kernel_rfl) (by simp) ?_
        refine' AllReady.cons ?hoc6t79 (fun K hK => ?stc6t79) AllReady.nil
        case hoc6t79 => (simp only [List.getElem?_toArray, List.getElem?_cons_succ, List.getElem?_cons_zero]; rfl)
        go_simp
        refine (MK.out v78 w.heap.size _ (GD.out.below hS.bel H2D.out) (KD.out.below hS.bel) hS.sees).mono ?_
        rintro e v79 ⟨rfl, hb⟩
        refine hK _ _ ?_
        clear hK K
        replace hS := hS.below hb
        clear hb
        try simp only [Act.put, List.setIfInBounds_toArray, List.set_cons_succ, List.set_cons_zero]
        refine wpAny_ready (rs := [8]) (by kernel_rfl) (by simp) ?_
        refine' AllReady.cons ?hoc8t80 (fun K hK => ?stc8t80) AllReady.nil
        case hoc8t80 => (simp only [List.getElem?_toArray, List.getElem?_cons_succ, List.getElem?_cons_zero]; rfl)
        rw [if_pos (by rfl)]
        refine wp_store_row 27 (.tmp 15) (.tmp 59) rfl _ (bcells (F)) rfl rfl 27 _ (hS.row _ rfl).2 IF.out ZF.out OF.out ?_
        refine hK _ _ ?_
        clear hK K
        simp only [Act.put]
        refine wpAny_done (by kernel_rfl) ?_ _
        exact HKx.out _ _ _ _ _ _ ((hD.trans (hS.bel.mono hD.size)).trans (below_row _ _ (Nat.le_trans hD.size (hS.row _ rfl).1))) (setRow_heap _ _ _ _ _ _ (hS.row _ rfl).2)
      refine' AllReady.cons ?hoc4t81 (fun K hK => ?stc4t81) AllReady.nil
      case hoc4t81 => (simp only [List.getElem?_toArray, List.getElem?_cons_succ, List.getElem?_cons_zero]; rfl)
      case stc4t81 =>
        go_simp
        refine hK _ _ ?_
        clear hK K
        try simp only [Act.put, List.setIfInBounds_toArray, List.set_cons_succ, List.set_cons_zero]
        replace hS := hS.mk_four
        generalize v75.alloc (.cells #[.int .u8 1] 5) = v81 at hS ⊢
        refine wpAny_ready (rs := [3]) (by kernel_rfl) (by simp) ?_
        refine' AllReady.cons ?hoc3t82 (fun K hK => ?stc3t82) AllReady.nil
        case hoc3t82 => (simp only [List.getElem?_toArray, List.getElem?_cons_succ, List.getElem?_cons_zero]; rfl)
        rw [if_pos (by rfl)]
        obtain ⟨q3t82, k3t82, v82, hr, hT⟩ := hS.mk_three SN.out LNM.out
        refine wp_app (.tmp 54) (.tmp 55) rfl rfl rfl rfl hr ?_
        refine hK _ _ ?_
        clear hK K hr hS
        have hS := hT
        clear hT
        simp only [Act.put, List.setIfInBounds_toArray, List.set_cons_succ, List.set_cons_zero]
        refine wpAny_ready (rs := [5]) (by kernel_rfl) (by simp) ?_
        refine' AllReady.cons ?hoc5t83 (fun K hK => ?stc5t83) AllReady.nil
        case hoc5t83 => (simp only [List.getElem?_toArray, List.getElem?_cons_succ, List.getElem?_cons_zero]; rfl)
        rw [if_pos (by rfl)]
        obtain ⟨q5t83, k5t83, v83, hr, hT⟩ := hS.mk_five LNM.out
        refine wp_app (.tmp 56) (.tmp 57) rfl rfl rfl rfl hr ?_
        refine hK _ _ ?_
        clear hK K hr hS
        have hS := hT
        clear hT
        simp only [Act.put, List.setIfInBounds_toArray, List.set_cons_succ, List.set_cons_zero]
        refine wpAny_ready (rs := [6]) (by kernel_rfl) (by simp) ?_
        refine' AllReady.cons ?hoc6t84 (fun K hK => ?stc6t84) AllReady.nil
        case hoc6t84 => (simp only [List.getElem?_toArray, List.getElem?_cons_succ, List.getElem?_cons_zero]; rfl)
        go_simp
        refine (MK.out v83 w.heap.size _ (GD.out.below hS.bel H2D.out) (KD.out.below hS.bel) hS.sees).mono ?_
        rintro e v84 ⟨rfl, hb⟩
        refine hK _ _ ?_
        clear hK K
        replace hS := hS.below hb
        clear hb
        try simp only [Act.put, List.setIfInBounds_toArray, List.set_cons_succ, List.set_cons_zero]
        refine wpAny_ready (rs := [8]) (by kernel_rfl) (by simp) ?_
        refine' AllReady.cons ?hoc8t85 (fun K hK => ?stc8t85) AllReady.nil
        case hoc8t85 => (simp only [List.getElem?_toArray, List.getElem?_cons_succ, List.getElem?_cons_zero]; rfl)
        rw [if_pos (by rfl)]
        refine wp_store_row 27 (.tmp 15) (.tmp 59) rfl _ (bcells (F)) rfl rfl 27 _ (hS.row _ rfl).2 IF.out ZF.out OF.out ?_
        refine hK _ _ ?_
        clear hK K
        simp only [Act.put]
        refine wpAny_done (by kernel_rfl) ?_ _
        exact HKx.out _ _ _ _ _ _ ((hD.trans (hS.bel.mono hD.size)).trans (below_row _ _ (Nat.le_trans hD.size (hS.row _ rfl).1))) (setRow_heap _ _ _ _ _ _ (hS.row _ rfl).2)
    refine' AllReady.cons ?hoc4t86 (fun K hK => ?stc4t86) AllReady.nil
    case hoc4t86 => (simp only [List.getElem?_toArray, List.getElem?_cons_succ, List.getElem?_cons_zero]; rfl)
    case stc4t86 =>
      go_simp
      refine hK _ _ ?_
      clear hK K
      try simp only [Act.put, List.setIfInBounds_toArray, List.set_cons_succ, List.set_cons_zero]
      replace hS := hS.mk_four
      generalize v74.alloc (.cells #[.int .u8 1] 5) = v86 at hS ⊢
      refine wpAny_ready (rs := [1]) (by kernel_rfl) (by simp) ?_
      refine' AllReady.cons ?hoc1t87 (fun K hK => ?stc1t87) AllReady.nil
      case hoc1t87 => (simp only [List.getElem?_toArray, List.getElem?_cons_succ, List.getElem?_cons_zero]; rfl)
      go_simp
      refine hK _ _ ?_
      clear hK K
      try simp only [Act.put, List.setIfInBounds_toArray, List.set_cons_succ, List.set_cons_zero]
      replace hS := hS.mk_one
      generalize v86.alloc (.cells #[] 5) = v87 at hS ⊢
      refine wpAny_ready (rs := [3]) (by kernel_rfl) (by simp) ?_
      refine' AllReady.cons ?hoc3t88 (fun K hK => ?stc3t88) AllReady.nil
      case hoc3t88 => (simp only [List.getElem?_toArray, List.getElem?_cons_succ, List.getElem?_cons_zero]; rfl)
      rw [if_pos (by rfl)]
      obtain ⟨q3t88, k3t88, v88, hr, hT⟩ := hS.mk_three SN.out LNM.out
      refine wp_app (.tmp 54) (.tmp 55) rfl rfl rfl rfl hr ?_
      refine hK _ _ ?_
      clear hK K hr hS
      have hS := hT
      clear hT
      simp only [Act.put, List.setIfInBounds_toArray, List.set_cons_succ, List.set_cons_zero]
      refine wpAny_ready (rs := [5]) (by kernel_rfl) (by simp) ?_
      refine' AllReady.cons ?hoc5t89 (fun K hK => ?stc5t89) AllReady.nil
      case hoc5t89 => (simp only [List.getElem?_toArray, List.getElem?_cons_succ, List.getElem?_cons_zero]; rfl)
      rw [if_pos (by rfl)]
      obtain ⟨q5t89, k5t89, v89, hr, hT⟩ := hS.mk_five LNM.out
      refine wp_app (.tmp 56) (.tmp 57) rfl rfl rfl rfl hr ?_
      refine hK _ _ ?_
      clear hK K hr hS
      have hS := hT
      clear hT
      simp only [Act.put, List.setIfInBounds_toArray, List.set_cons_succ, List.set_cons_zero]
      refine wpAny_ready (rs := [6]) (by kernel_rfl) (by simp) ?_
      refine' AllReady.cons ?hoc6t90 (fun K hK => ?stc6t90) AllReady.nil
      case hoc6t90 => (simp only [List.getElem?_toArray, List.getElem?_cons_succ, List.getElem?_cons_zero]; rfl)
      go_simp
      refine (MK.out v89 w.heap.size _ (GD.out.below hS.bel H2D.out) (KD.out.below hS.bel) hS.sees).mono ?_
      rintro e v90 ⟨rfl, hb⟩
      refine hK _ _ ?_
      clear hK K
      replace hS := hS.below hb
      clear hb
      try simp only [Act.put, List.setIfInBounds_toArray, List.set_cons_succ, List.set_cons_zero]
      refine wpAny_ready (rs := [8]) (by kernel_rfl) (by simp) ?_
      refine' AllReady.cons ?hoc8t91 (fun K hK => ?stc8t91) AllReady.nil
      case hoc8t91 => (simp only [List.getElem?_toArray, List.getElem?_cons_succ, List.getElem?_cons_zero]; rfl)
      rw [if_pos (by rfl)]
      refine wp_store_row 27 (.tmp 15) (.tmp 59) rfl _ (bcells (F)) rfl rfl 27 _ (hS.row _ rfl).2 IF.out ZF.out OF.out ?_
      refine hK _ _ ?_
      clear hK K
      simp only [Act.put]
      refine wpAny_done (by kernel_rfl) ?_ _
      exact HKx.out _ _ _ _ _ _ ((hD.trans (hS.bel.mono hD.size)).trans (below_row _ _ (Nat.le_trans hD.size (hS.row _ rfl).1))) (setRow_heap _ _ _ _ _ _ (hS.row _ rfl).2)
theorem walkI (key name : List Int) (vn : Value) (n m : Int) (w : World) (hG : Glob w) (hk : Byt key) (lk : key.length = 32) (hn : Sees w vn name) :
    Calls Tryd.prog 10 #[.agg (bcells key), vn, .int .i64 n, .int .i64 m] w fun e w' => e = .returned (.bool true) ∧ Below w.heap.size w w' := by
  by_cases h : 300 < name.length ∨ n < 0 ∨ m < n ∨ 500 < m
  · exact walk_great _ vn name n m w hG hn h
  · obtain ⟨i, rfl⟩ := Int.eq_ofNat_of_zero_le (show 0 ≤ n by omega)
    obtain ⟨j, rfl⟩ := Int.eq_ofNat_of_zero_le (show 0 ≤ m by omega)
    exact walk key name vn i j w hG hk lk hn (by omega) (by omega) (by omega)

set_option maxRecDepth 100000 in
theorem lifted (os : Os) (started : os.Started) (H : Type) (enc : TypeId × Value → H) :
    ReturnsInHanded {} Tryd.checked os 10 .any (fun w args => (Rows.hmacBeginsSpec.pre enc Tryd.prog Tryd.f10 [] false w args ∧ laidMetH Tryd.prog laid2 w) ∧ sizedMet enc Tryd.prog Tryd.f10 (OpenSpec.ofChange Rows.hmacBeginsSpec) false w args)
      (Rows.hmacBeginsSpec.post enc Tryd.prog Tryd.f10 false true false false) := by
  refine returnsInHanded_of_change_and (C := Tryd.checked) (X := fun w _ => laidMetH Tryd.prog laid2 w) (fun _ _ _ hh h => h.of_heap hh) own started (by kernel_rfl) Tryd.func10
    (ChangeSpec.witness_shaped (enc := enc) (C := Tryd.checked) (os := os) (X := fun w _ => laidMetH Tryd.prog laid2 w) false (World.doorLaid Tryd.prog 400 os) #[.agg #[.int .u8 0, .int .u8 0, .int .u8 0, .int .u8 0, .int .u8 0, .int .u8 0, .int .u8 0, .int .u8 0, .int .u8 0, .int .u8 0, .int .u8 0, .int .u8 0, .int .u8 0, .int .u8 0, .int .u8 0, .int .u8 0, .int .u8 0, .int .u8 0, .int .u8 0, .int .u8 0, .int .u8 0, .int .u8 0, .int .u8 0, .int .u8 0, .int .u8 0, .int .u8 0, .int .u8 0, .int .u8 0, .int .u8 0, .int .u8 0, .int .u8 0, .int .u8 0], .slice none 0 0, .int .i64 0, .int .i64 0] 8 rfl (World.shaped_of_RefB (by kernel_rfl) (by kernel_rfl)) (by kernel_rfl) (by kernel_rfl) (by kernel_rfl) (door_met os _)) ?_
  intro W base args ds gs before hval0 hW _ _ hL _
  have hval : ∀ (j : Nat) t v, Tryd.f10.params[j]? = some t → args[j]? = some v → Value.okWide Tryd.prog W .any base t v := hval0
  have hW' := hW
  obtain ⟨p, q, hA0, hV, rfl, hfz, hnd⟩ := hW
  have hA : DataW.TrodAll enc Tryd.prog W 0 (fun _ => true) true Tryd.f10.params.toList args.toList ds p := hA0
  rw [Tryd.params10] at hA hval
  obtain ⟨v0, vs0, d0, ds0, p0, q0, hargs, rfl, rfl, h0, r0⟩ := trodAll_cons hA
  obtain ⟨v1, vs1, d1, ds1, p1, q1, rfl, rfl, rfl, h1, r1⟩ := trodAll_cons r0
  obtain ⟨v2, vs2, d2, ds2, p2, q2, rfl, rfl, rfl, h2, r2⟩ := trodAll_cons r1
  obtain ⟨v3, vs3, d3, ds3, p3, q3, rfl, rfl, rfl, h3, r3⟩ := trodAll_cons r2
  obtain ⟨rfl, rfl, rfl⟩ := trodAll_nil r3
  obtain rfl : args = #[v0, v1, v2, v3] := by cases args; simp_all
  obtain ⟨rfl, rfl⟩ := trodVars_none hV
  obtain ⟨x0, rfl, s0, l0⟩ := open_key (hval 0 48 v0 rfl rfl) h0
  obtain ⟨x1, s1⟩ := open_sees (hval 1 22 v1 rfl rfl) h1
  obtain ⟨a2, rfl, rfl, rfl, w2⟩ := open_int Tryd.underlying3 (hval 2 3 v2 rfl rfl) h2
  have b2 := bounds_i64 w2
  obtain ⟨a3, rfl, rfl, rfl, w3⟩ := open_int Tryd.underlying3 (hval 3 3 v3 rfl rfl) h3
  have b3 := bounds_i64 w3
  refine (walkI x0 x1 v1 a2 a3 W (of_laid hL) s0 l0 s1).mono fun e W' ⟨he, hb⟩ => ?_
  subst he
  exact ⟨_, rfl, law_post hW' rfl rfl rfl (by kernel_rfl) hb⟩
/-- The row's statement. -/
theorem row_holds : Rows.HmacBeginsSaid :=
  OpenClaim.holds_of_wide 10 Tryd.f10 rfl rfl rfl rfl rfl rfl rfl ⟨rfl, rfl, rfl, rfl, rfl⟩ rfl rfl rfl rfl rfl (by kernel_rfl) Tryd.func10 (by kernel_rfl)
    (of_decide_eq_true (by kernel_rfl)) (by unfold Func.isWrapper; first | (rw [if_pos (by decide +kernel)]; kernel_rfl) | (rw [if_neg (by decide +kernel)]; exact ⟨rfl, rfl⟩))
    (fun os started H enc _ => lifted os started H enc)
/-- The tied card. -/
theorem proved : Rows.HmacBeginsCardSaid :=
  Claim7.holds_tied_plain_at .later [] [.data, .data] true (true, "c1a692658ed27d6b705437531a4023b4f004fc9067d80523147904b9ccf5c916") false
    row_holds (fun _ h => by cases h) (by kernel_rfl) (fun _ h => by cases h) hmacBegins_row_tie rfl ⟨rfl, rfl⟩ (by kernel_rfl) rfl
    (fun f fn hf hfn => by
      obtain rfl : f = 10 := Option.some.inj ((show Tryd.prog.funcNamed "casemate/casematelaw03.HmacBegins" = some 10 by kernel_rfl).symm.trans hf) |>.symm
      obtain rfl : fn = Tryd.f10 := (Option.some.inj (Tryd.func10.symm.trans hfn)).symm
      exact ⟨by kernel_rfl, fun j t ht => by
        rw [Tryd.params10] at ht
        have hm : t ∈ [48, 22, 3, 3] := by simpa using Array.mem_of_getElem? ht
        have hall : ([48, 22, 3, 3].all fun u => !Tryd.prog.wantsStandIn u) = true := by kernel_rfl
        exact (show Tryd.prog.wantsStandIn t = false by simpa using List.all_eq_true.1 hall t hm)⟩)
    (by kernel_rfl)
#print axioms proved
end Go.Proofs.YtmkaagiabafooaaDoor.hmacBegins
