/-
  The walks of NodeBack. Condition: the node reads as one, its kids' sectors fit, the bytes read as bytes.
-/
import Derived.Test.YtnifaldgofmciaaNdV
namespace Go.Proofs.Ytnifaldgofmciaa
open Go.RowKit
open oc (Byt Sees be nth)
theorem nB_512 {n : NV} (h : n.okP) (hr : rightB n.leaf n.ks n.vs.length n.qs.length = true) : (nB n).length = 512 := by
  unfold rightB at hr
  simp only [Bool.and_eq_true, decide_eq_true_eq] at hr
  obtain ⟨⟨_, h2, h3, h4⟩, _⟩ := hr
  refine nB_len ?_
  rw [bdB_len h n.ks.length (fun e => by rw [e, if_pos rfl] at h3; omega) (fun e => by rw [e, if_neg (by decide)] at h3; omega)]
  unfold stp
  cases hl : n.leaf with
  | true => rw [hl, if_pos rfl] at h2; rw [if_pos rfl]; omega
  | false => rw [hl, if_neg (by decide)] at h2; rw [if_neg (by decide)]; omega
theorem rightN (v : Value) (n : NV) (w : World) (hv : ND w v n) : Calls Try.prog 12 #[v] w fun e w' => e = .returned (.bool (rightB n.leaf n.ks n.vs.length n.qs.length)) ∧ Below w.heap.size w w' := by
  obtain ⟨K, V, Q, rfl, h1, h2, h3, _, _⟩ := hv
  obtain ⟨_, _, xv, cv, rfl, _⟩ := h2
  obtain ⟨_, _, xq, cq, rfl, _⟩ := h3
  exact right _ _ _ _ _ _ _ _ _ _ h1
theorem nd_one {w : World} {n m : NV} {A : Array Value} {K V Q : Value} (hn : ND w (.agg #[.bool n.leaf, K, V, Q]) m) (hA : A = #[.bool n.leaf, K, V, Q]) : A.all (·.oneCell') = true := by
  obtain ⟨_, _, _, e, hk, hv, hq, _⟩ := hn
  obtain ⟨x1, n1, c1, rfl⟩ := hk.form
  obtain ⟨x2, n2, c2, rfl⟩ := hv.form
  obtain ⟨x3, n3, c3, rfl⟩ := hq.form
  simp only [Value.agg.injEq, Array.mk.injEq, List.cons.injEq] at e
  obtain ⟨_, rfl, rfl, rfl, _⟩ := e
  rw [hA]; simp [Value.oneCell']
theorem isN_parts {xs : List Int} (h : isN xs = true) : rightB (rdN xs).leaf (rdN xs).ks (rdN xs).vs.length (rdN xs).qs.length = true ∧ nB (rdN xs) = xs := by
  unfold isN at h
  simpa only [Bool.and_eq_true, decide_eq_true_eq] using h
theorem rdN_fit {xs : List Int} (h : Byt xs) : ∀ p ∈ (rdN xs).qs, 0 ≤ p.1 ∧ p.1 ≤ 4294967295 := by
  intro p hp
  have hb : Byt (begR xs).1 := nxt_byt (nxt_byt (nxt_byt (p := (xs, false)) h 1) 1) 6
  have e : (rdN xs).qs = if lfR xs = true then [] else (List.range (cntR xs).toNat).map (kidA (begR xs)) := rfl
  rw [e] at hp
  split at hp
  · cases hp
  · obtain ⟨i, _, rfl⟩ := List.mem_map.1 hp
    exact (kid_ok hb i).2
set_option maxRecDepth 100000 in
set_option maxHeartbeats 8000000 in
theorem walk_great (n : NV) (v : Value) (x : Option Addr) (l cap : Nat) (w : World) (hv : ND w v n) (hg : greatB n = true) : Calls Try.prog 4 #[v, .slice x l cap] w (AliveP w) := by
  obtain ⟨K, V, Q, rfl, hrest⟩ := id hv
  clear hrest
  obtain ⟨AR, hAR⟩ : ∃ AR : Array Value, AR = #[.bool n.leaf, K, V, Q] := ⟨_, rfl⟩
  have IA : Hid ((Try.prog.info? 26).map (·.size) = some AR.size) := by show _ = _; rw [hAR]; exact size26' _ _ _ _
  rw [← hAR] at hv
  rw [← hAR]
  clear hAR
  obtain ⟨W0, hW0⟩ : ∃ W0, W0 = w.alloc (.cells AR 26) := ⟨_, rfl⟩
  have hb : Below w.heap.size w W0 := by rw [hW0]; exact (Below.refl _ _).alloc (Nat.le_refl _) _
  have B0 := Lib.hid hb
  have GR : Hid (W0.heap[w.heap.size]? = some (.cells AR 26 (0, 0))) := by show _ = _; rw [hW0]; exact heap_alloc_new w _
  have NR := Lib.hid (hv.below hb)
  have HW0 := Lib.hid hW0
  have GT : Hid (∀ v W, ND W v n → Calls Try.prog 7 #[v] W fun e w' => e = .returned (.bool true) ∧ Below W.heap.size W w') := fun v W h => by have := great v n W h; rw [hg] at this; exact this
  have AL := Lib.hid alive8
  clear hW0 hb hv hg
  go_enter Try.func4, Try.ntmps4
  go_upto_region 1 with (fail)
  rw [← HW0.out]
  go_wp2_with (refine wpList_load_row rfl 26 (.tmp 2) rfl w.heap.size rfl 26 AR (0, 0) _ GR.out Try.underlying26 rfl IA.out ?_)
  refine (GT.out _ _ NR.out).mono ?_
  rintro e w1 ⟨rfl, hb⟩
  have B0 := Lib.hid (B0.out.trans (hb.mono B0.out.size))
  clear hb
  go_wp2_with fail
  refine (AL.out _).mono ?_
  rintro e w7 ⟨rfl, hb⟩
  have B0 := Lib.hid (B0.out.trans (hb.mono B0.out.size))
  clear hb
  go_wp2_with fail
  go_ret
  exact ⟨rfl, B0.out⟩
set_option maxRecDepth 100000 in
set_option maxHeartbeats 8000000 in
theorem walk_long (n : NV) (v : Value) (x : Option Addr) (l cap : Nat) (w : World) (hv : ND w v n) (hg : greatB n = false) (hl : 2000 < l) (hm : l ≤ 9223372036854775807) : Calls Try.prog 4 #[v, .slice x l cap] w (AliveP w) := by
  have hl' : (2000 : Int) < l := by omega
  obtain ⟨K, V, Q, rfl, hrest⟩ := id hv
  clear hrest
  obtain ⟨AR, hAR⟩ : ∃ AR : Array Value, AR = #[.bool n.leaf, K, V, Q] := ⟨_, rfl⟩
  have IA : Hid ((Try.prog.info? 26).map (·.size) = some AR.size) := by show _ = _; rw [hAR]; exact size26' _ _ _ _
  rw [← hAR] at hv
  rw [← hAR]
  clear hAR
  obtain ⟨W0, hW0⟩ : ∃ W0, W0 = w.alloc (.cells AR 26) := ⟨_, rfl⟩
  have hb : Below w.heap.size w W0 := by rw [hW0]; exact (Below.refl _ _).alloc (Nat.le_refl _) _
  have B0 := Lib.hid hb
  have GR : Hid (W0.heap[w.heap.size]? = some (.cells AR 26 (0, 0))) := by show _ = _; rw [hW0]; exact heap_alloc_new w _
  have NR := Lib.hid (hv.below hb)
  have HW0 := Lib.hid hW0
  have GT : Hid (∀ v W, ND W v n → Calls Try.prog 7 #[v] W fun e w' => e = .returned (.bool false) ∧ Below W.heap.size W w') := fun v W h => by have := great v n W h; rw [hg] at this; exact this
  have AL := Lib.hid alive8
  clear hW0 hb hv hg
  go_enter Try.func4, Try.ntmps4
  go_upto_region 1 with (fail)
  rw [← HW0.out]
  go_wp2_with (refine wpList_load_row rfl 26 (.tmp 2) rfl w.heap.size rfl 26 AR (0, 0) _ GR.out Try.underlying26 rfl IA.out ?_)
  refine (GT.out _ _ NR.out).mono ?_
  rintro e w1 ⟨rfl, hb⟩
  have B0 := Lib.hid (B0.out.trans (hb.mono B0.out.size))
  clear hb
  go_wp2_with fail
  refine (AL.out _).mono ?_
  rintro e w7 ⟨rfl, hb⟩
  have B0 := Lib.hid (B0.out.trans (hb.mono B0.out.size))
  clear hb
  go_wp2_with fail
  go_ret
  exact ⟨rfl, B0.out⟩
set_option maxRecDepth 100000 in
set_option maxHeartbeats 8000000 in
theorem walk_no_not (n : NV)  (hf : ∀ p ∈ n.qs, 0 ≤ p.1 ∧ p.1 ≤ 4294967295) (v u : Value) (xs : List Int) (w : World) (hv : ND w v n) (hs : Sees w u xs) (hg : greatB n = false) (hl : xs.length ≤ 2000) (hr : rightB n.leaf n.ks n.vs.length n.qs.length = false) (hx : isN xs = false) : Calls Try.prog 4 #[v, u] w (AliveP w) := by
  obtain ⟨x, cap, rfl, _⟩ := hs.form
  have hl' : (xs.length : Int) ≤ 2000 := by omega
  have hz := z26
  obtain ⟨Z, hZ⟩ : ∃ Z : Array Value, Z = #[.bool false, .slice none 0 0, .slice none 0 0, .slice none 0 0] := ⟨_, rfl⟩
  rw [← hZ] at hz
  have Z4 : Hid (Z.size = 4) := by show _ = _; rw [hZ]; rfl
  clear hZ
  obtain ⟨K, V, Q, rfl, hrest⟩ := id hv
  clear hrest
  obtain ⟨AR, hAR⟩ : ∃ AR : Array Value, AR = #[.bool n.leaf, K, V, Q] := ⟨_, rfl⟩
  have IA : Hid ((Try.prog.info? 26).map (·.size) = some AR.size) := by show _ = _; rw [hAR]; exact size26' _ _ _ _
  rw [← hAR] at hv
  rw [← hAR]
  clear hAR
  obtain ⟨W0, hW0⟩ : ∃ W0, W0 = w.alloc (.cells AR 26) := ⟨_, rfl⟩
  have hb : Below w.heap.size w W0 := by rw [hW0]; exact (Below.refl _ _).alloc (Nat.le_refl _) _
  have B0 := Lib.hid hb
  have GR : Hid (W0.heap[w.heap.size]? = some (.cells AR 26 (0, 0))) := by show _ = _; rw [hW0]; exact heap_alloc_new w _
  have SB := Lib.hid (hs.below hb)
  have NR := Lib.hid (hv.below hb)
  have HW0 := Lib.hid hW0
  have GT : Hid (∀ v W, ND W v n → Calls Try.prog 7 #[v] W fun e w' => e = .returned (.bool false) ∧ Below W.heap.size W w') := fun v W h => by have := great v n W h; rw [hg] at this; exact this
  have RT : Hid (∀ v W, ND W v n → Calls Try.prog 12 #[v] W fun e w' => e = .returned (.bool false) ∧ Below W.heap.size W w') := fun v W h => by have := rightN v n W h; rw [hr] at this; exact this
  have WR : Hid (∀ v W, ND W v n → Calls Try.prog 10 #[v] W fun e w' => ∃ q, e = .returned (.tuple #[q, .int .i64 3]) ∧ Below W.heap.size W w') := fun v W h => by
    have := write v n W h hf
    unfold WriteP wrE wrV at this
    rw [if_neg (by rw [hr]; decide), if_neg (by rw [hr]; decide)] at this
    exact this.mono fun e w' ⟨q, h1, _, h2⟩ => ⟨q, h1, h2⟩
  have RX : Hid (∀ v W, Sees W v xs → Calls Try.prog 15 #[v] W fun e w' => ∃ u, e = .returned (.tuple #[u, .int .i64 3]) ∧ ND w' u nz ∧ Below W.heap.size W w') := fun v W h => by
    have := read v _ W h (by omega)
    unfold ReadP at this
    rw [if_neg (by rw [hx]; decide), if_neg (by rw [hx]; decide)] at this
    exact this
  have WX : Hid (∀ v W, ND W v nz → Calls Try.prog 10 #[v] W fun e w' => ∃ q, e = .returned (.tuple #[q, .int .i64 3]) ∧ Sees w' q [] ∧ Below W.heap.size W w') := fun v W h => by
    have := write v _ W h (by intro p hp; simp [nz] at hp)
    unfold WriteP at this
    rw [nz_wrE] at this
    exact this
  generalize hm : nz = m at *
  clear hm
  have AL := Lib.hid alive8
  clear hW0 hb hv hs hf hg hr hx
  go_enter Try.func4, Try.ntmps4
  go_upto_region 1 with (fail)
  rw [← HW0.out]
  go_wp2_with (refine wpList_load_row rfl 26 (.tmp 2) rfl w.heap.size rfl 26 AR (0, 0) _ GR.out Try.underlying26 rfl IA.out ?_)
  refine (GT.out _ _ NR.out).mono ?_
  rintro e w1 ⟨rfl, hb⟩
  have B0 := Lib.hid (B0.out.trans (hb.mono B0.out.size))
  have GR := Lib.hid ((hb.block _ (Array.getElem?_eq_some_iff.1 GR.out).1).trans GR.out)
  have SB := Lib.hid (SB.out.below hb)
  have NR := Lib.hid (NR.out.below hb)
  clear hb
  go_wp2_with (refine wpList_load_row rfl 26 (.tmp 2) rfl w.heap.size rfl 26 AR (0, 0) _ GR.out Try.underlying26 rfl IA.out ?_)
  refine (WR.out _ _ NR.out).mono ?_
  rintro e w2 ⟨q, rfl, hb⟩
  have B0 := Lib.hid (B0.out.trans (hb.mono B0.out.size))
  have GR := Lib.hid ((hb.block _ (Array.getElem?_eq_some_iff.1 GR.out).1).trans GR.out)
  have SB := Lib.hid (SB.out.below hb)
  have NR := Lib.hid (NR.out.below hb)
  clear hb
  go_wp2_with fail
  refine (RX.out _ _ SB.out).mono ?_
  rintro e w5 ⟨u5, rfl, hn, hb⟩
  obtain ⟨KY, VY, QY, rfl, hrest⟩ := id hn
  clear hrest
  obtain ⟨AY, hAY⟩ : ∃ AS : Array Value, AS = #[.bool m.leaf, KY, VY, QY] := ⟨_, rfl⟩
  have IY : Hid ((Try.prog.info? 26).map (·.size) = some AY.size) := by show _ = _; rw [hAY]; exact size26' _ _ _ _
  have SY : Hid (Z.size = AY.size) := by show _ = _; rw [Z4.out, hAY]; rfl
  have OY := Lib.hid (nd_one hn hAY)
  rw [← hAY] at hn
  rw [← hAY]
  clear hAY
  have B0 := Lib.hid (B0.out.trans (hb.mono B0.out.size))
  have GR := Lib.hid ((hb.block _ (Array.getElem?_eq_some_iff.1 GR.out).1).trans GR.out)
  have SB := Lib.hid (SB.out.below hb)
  have NR := Lib.hid (NR.out.below hb)
  clear hb
  have hb : Below w5.heap.size w5 (w5.alloc (.cells AY 26)) := (Below.refl _ _).alloc (Nat.le_refl _) _
  have GN := Lib.hid (heap_alloc_new w5 (.cells Z 26))
  have RW := Lib.hid (alloc_setRowT w5 Z AY 26 _ rfl)
  have GY := Lib.hid (heap_alloc_new w5 (.cells AY 26))
  have NY := Lib.hid (hn.below hb)
  clear hn
  have B0 := Lib.hid (B0.out.trans (hb.mono B0.out.size))
  have GR := Lib.hid ((hb.block _ (Array.getElem?_eq_some_iff.1 GR.out).1).trans GR.out)
  have SB := Lib.hid (SB.out.below hb)
  have NR := Lib.hid (NR.out.below hb)
  clear hb
  go_upto_region 9 with (refine wpList_store_row rfl 26 (.tmp 9) (.tmp 49) rfl w5.heap.size AY rfl rfl 26 Z GN.out IY.out SY.out OY.out ?_)
  rw [RW.out]
  try simp only [Act.put]
  generalize w5.alloc (.cells AY 26) = vY at *
  generalize w5.heap.size = gY at *
  clear GN RW
  go_wp2_with (refine wpList_load_row rfl 26 (.tmp 9) rfl gY rfl 26 AY (0, 0) _ GY.out Try.underlying26 rfl IY.out ?_)
  refine (WX.out _ _ NY.out).mono ?_
  rintro e w6 ⟨q6, rfl, hq, hb⟩
  have SV := Lib.hid hq
  obtain ⟨ux, uc, rfl, _⟩ := hq.form
  clear hq
  have B0 := Lib.hid (B0.out.trans (hb.mono B0.out.size))
  have GR := Lib.hid ((hb.block _ (Array.getElem?_eq_some_iff.1 GR.out).1).trans GR.out)
  have SB := Lib.hid (SB.out.below hb)
  have NR := Lib.hid (NR.out.below hb)
  have GY := Lib.hid ((hb.block _ (Array.getElem?_eq_some_iff.1 GY.out).1).trans GY.out)
  have NY := Lib.hid (NY.out.below hb)
  clear hb
  go_wp2_with fail
  refine (AL.out _).mono ?_
  rintro e w7 ⟨rfl, hb⟩
  have B0 := Lib.hid (B0.out.trans (hb.mono B0.out.size))
  have GR := Lib.hid ((hb.block _ (Array.getElem?_eq_some_iff.1 GR.out).1).trans GR.out)
  have SB := Lib.hid (SB.out.below hb)
  have NR := Lib.hid (NR.out.below hb)
  have GY := Lib.hid ((hb.block _ (Array.getElem?_eq_some_iff.1 GY.out).1).trans GY.out)
  have NY := Lib.hid (NY.out.below hb)
  have SV := Lib.hid (SV.out.below hb)
  clear hb
  go_wp2_with (refine wpList_load_met rfl 26 (.tmp 2) rfl w.heap.size rfl 26 AR (0, 0) _ GR.out Try.underlying26 ⟨_, rfl⟩ IA.out ?_)
  refine (RT.out _ _ NR.out).mono ?_
  rintro e w8 ⟨rfl, hb⟩
  have B0 := Lib.hid (B0.out.trans (hb.mono B0.out.size))
  have GR := Lib.hid ((hb.block _ (Array.getElem?_eq_some_iff.1 GR.out).1).trans GR.out)
  have SB := Lib.hid (SB.out.below hb)
  have NR := Lib.hid (NR.out.below hb)
  have GY := Lib.hid ((hb.block _ (Array.getElem?_eq_some_iff.1 GY.out).1).trans GY.out)
  have NY := Lib.hid (NY.out.below hb)
  have SV := Lib.hid (SV.out.below hb)
  clear hb
  have s1 := SB.out.str
  have s2 := SV.out.str
  go_wp2_with fail
  go_ret
  exact ⟨rfl, B0.out⟩
set_option maxRecDepth 100000 in
set_option maxHeartbeats 8000000 in
theorem walk_no_is (n : NV)  (hf : ∀ p ∈ n.qs, 0 ≤ p.1 ∧ p.1 ≤ 4294967295) (v u : Value) (xs : List Int) (w : World) (hv : ND w v n) (hs : Sees w u xs) (hg : greatB n = false) (hl : xs.length ≤ 2000) (hr : rightB n.leaf n.ks n.vs.length n.qs.length = false) (hx : isN xs = true) : Calls Try.prog 4 #[v, u] w (AliveP w) := by
  obtain ⟨x, cap, rfl, _⟩ := hs.form
  have hl' : (xs.length : Int) ≤ 2000 := by omega
  have hz := z26
  obtain ⟨Z, hZ⟩ : ∃ Z : Array Value, Z = #[.bool false, .slice none 0 0, .slice none 0 0, .slice none 0 0] := ⟨_, rfl⟩
  rw [← hZ] at hz
  have Z4 : Hid (Z.size = 4) := by show _ = _; rw [hZ]; rfl
  clear hZ
  obtain ⟨K, V, Q, rfl, hrest⟩ := id hv
  clear hrest
  obtain ⟨AR, hAR⟩ : ∃ AR : Array Value, AR = #[.bool n.leaf, K, V, Q] := ⟨_, rfl⟩
  have IA : Hid ((Try.prog.info? 26).map (·.size) = some AR.size) := by show _ = _; rw [hAR]; exact size26' _ _ _ _
  rw [← hAR] at hv
  rw [← hAR]
  clear hAR
  obtain ⟨W0, hW0⟩ : ∃ W0, W0 = w.alloc (.cells AR 26) := ⟨_, rfl⟩
  have hb : Below w.heap.size w W0 := by rw [hW0]; exact (Below.refl _ _).alloc (Nat.le_refl _) _
  have B0 := Lib.hid hb
  have GR : Hid (W0.heap[w.heap.size]? = some (.cells AR 26 (0, 0))) := by show _ = _; rw [hW0]; exact heap_alloc_new w _
  have SB := Lib.hid (hs.below hb)
  have NR := Lib.hid (hv.below hb)
  have HW0 := Lib.hid hW0
  have GT : Hid (∀ v W, ND W v n → Calls Try.prog 7 #[v] W fun e w' => e = .returned (.bool false) ∧ Below W.heap.size W w') := fun v W h => by have := great v n W h; rw [hg] at this; exact this
  have RT : Hid (∀ v W, ND W v n → Calls Try.prog 12 #[v] W fun e w' => e = .returned (.bool false) ∧ Below W.heap.size W w') := fun v W h => by have := rightN v n W h; rw [hr] at this; exact this
  have WR : Hid (∀ v W, ND W v n → Calls Try.prog 10 #[v] W fun e w' => ∃ q, e = .returned (.tuple #[q, .int .i64 3]) ∧ Below W.heap.size W w') := fun v W h => by
    have := write v n W h hf
    unfold WriteP wrE wrV at this
    rw [if_neg (by rw [hr]; decide), if_neg (by rw [hr]; decide)] at this
    exact this.mono fun e w' ⟨q, h1, _, h2⟩ => ⟨q, h1, h2⟩
  have RX : Hid (∀ v W, Sees W v xs → Calls Try.prog 15 #[v] W fun e w' => ∃ u, e = .returned (.tuple #[u, .int .i64 0]) ∧ ND w' u (rdN xs) ∧ Below W.heap.size W w') := fun v W h => by
    have := read v _ W h (by omega)
    unfold ReadP at this
    rw [if_pos hx, if_pos hx] at this
    exact this
  have WX : Hid (∀ v W, ND W v (rdN xs) → Calls Try.prog 10 #[v] W fun e w' => ∃ q, e = .returned (.tuple #[q, .int .i64 0]) ∧ Sees w' q xs ∧ Below W.heap.size W w') := fun v W h => by
    have := write v _ W h (rdN_fit hs.1)
    obtain ⟨e1, e2⟩ := isN_parts hx
    unfold WriteP wrE wrV at this
    rw [if_pos e1, if_pos e1, e2] at this
    exact this
  have EQV : Hid (((strOfNums xs).toList == (strOfNums xs).toList) = true) := beq_self_eq_true _
  generalize hm : rdN xs = m at *
  clear hm
  have AL := Lib.hid alive8
  clear hW0 hb hv hs hf hg hr hx
  go_enter Try.func4, Try.ntmps4
  go_upto_region 1 with (fail)
  rw [← HW0.out]
  go_wp2_with (refine wpList_load_row rfl 26 (.tmp 2) rfl w.heap.size rfl 26 AR (0, 0) _ GR.out Try.underlying26 rfl IA.out ?_)
  refine (GT.out _ _ NR.out).mono ?_
  rintro e w1 ⟨rfl, hb⟩
  have B0 := Lib.hid (B0.out.trans (hb.mono B0.out.size))
  have GR := Lib.hid ((hb.block _ (Array.getElem?_eq_some_iff.1 GR.out).1).trans GR.out)
  have SB := Lib.hid (SB.out.below hb)
  have NR := Lib.hid (NR.out.below hb)
  clear hb
  go_wp2_with (refine wpList_load_row rfl 26 (.tmp 2) rfl w.heap.size rfl 26 AR (0, 0) _ GR.out Try.underlying26 rfl IA.out ?_)
  refine (WR.out _ _ NR.out).mono ?_
  rintro e w2 ⟨q, rfl, hb⟩
  have B0 := Lib.hid (B0.out.trans (hb.mono B0.out.size))
  have GR := Lib.hid ((hb.block _ (Array.getElem?_eq_some_iff.1 GR.out).1).trans GR.out)
  have SB := Lib.hid (SB.out.below hb)
  have NR := Lib.hid (NR.out.below hb)
  clear hb
  go_wp2_with fail
  refine (RX.out _ _ SB.out).mono ?_
  rintro e w5 ⟨u5, rfl, hn, hb⟩
  obtain ⟨KY, VY, QY, rfl, hrest⟩ := id hn
  clear hrest
  obtain ⟨AY, hAY⟩ : ∃ AS : Array Value, AS = #[.bool m.leaf, KY, VY, QY] := ⟨_, rfl⟩
  have IY : Hid ((Try.prog.info? 26).map (·.size) = some AY.size) := by show _ = _; rw [hAY]; exact size26' _ _ _ _
  have SY : Hid (Z.size = AY.size) := by show _ = _; rw [Z4.out, hAY]; rfl
  have OY := Lib.hid (nd_one hn hAY)
  rw [← hAY] at hn
  rw [← hAY]
  clear hAY
  have B0 := Lib.hid (B0.out.trans (hb.mono B0.out.size))
  have GR := Lib.hid ((hb.block _ (Array.getElem?_eq_some_iff.1 GR.out).1).trans GR.out)
  have SB := Lib.hid (SB.out.below hb)
  have NR := Lib.hid (NR.out.below hb)
  clear hb
  have hb : Below w5.heap.size w5 (w5.alloc (.cells AY 26)) := (Below.refl _ _).alloc (Nat.le_refl _) _
  have GN := Lib.hid (heap_alloc_new w5 (.cells Z 26))
  have RW := Lib.hid (alloc_setRowT w5 Z AY 26 _ rfl)
  have GY := Lib.hid (heap_alloc_new w5 (.cells AY 26))
  have NY := Lib.hid (hn.below hb)
  clear hn
  have B0 := Lib.hid (B0.out.trans (hb.mono B0.out.size))
  have GR := Lib.hid ((hb.block _ (Array.getElem?_eq_some_iff.1 GR.out).1).trans GR.out)
  have SB := Lib.hid (SB.out.below hb)
  have NR := Lib.hid (NR.out.below hb)
  clear hb
  go_upto_region 9 with (refine wpList_store_row rfl 26 (.tmp 9) (.tmp 49) rfl w5.heap.size AY rfl rfl 26 Z GN.out IY.out SY.out OY.out ?_)
  rw [RW.out]
  try simp only [Act.put]
  generalize w5.alloc (.cells AY 26) = vY at *
  generalize w5.heap.size = gY at *
  clear GN RW
  go_wp2_with (refine wpList_load_row rfl 26 (.tmp 9) rfl gY rfl 26 AY (0, 0) _ GY.out Try.underlying26 rfl IY.out ?_)
  refine (WX.out _ _ NY.out).mono ?_
  rintro e w6 ⟨q6, rfl, hq, hb⟩
  have SV := Lib.hid hq
  obtain ⟨ux, uc, rfl, _⟩ := hq.form
  clear hq
  have B0 := Lib.hid (B0.out.trans (hb.mono B0.out.size))
  have GR := Lib.hid ((hb.block _ (Array.getElem?_eq_some_iff.1 GR.out).1).trans GR.out)
  have SB := Lib.hid (SB.out.below hb)
  have NR := Lib.hid (NR.out.below hb)
  have GY := Lib.hid ((hb.block _ (Array.getElem?_eq_some_iff.1 GY.out).1).trans GY.out)
  have NY := Lib.hid (NY.out.below hb)
  clear hb
  go_wp2_with fail
  refine (AL.out _).mono ?_
  rintro e w7 ⟨rfl, hb⟩
  have B0 := Lib.hid (B0.out.trans (hb.mono B0.out.size))
  have GR := Lib.hid ((hb.block _ (Array.getElem?_eq_some_iff.1 GR.out).1).trans GR.out)
  have SB := Lib.hid (SB.out.below hb)
  have NR := Lib.hid (NR.out.below hb)
  have GY := Lib.hid ((hb.block _ (Array.getElem?_eq_some_iff.1 GY.out).1).trans GY.out)
  have NY := Lib.hid (NY.out.below hb)
  have SV := Lib.hid (SV.out.below hb)
  clear hb
  go_wp2_with (refine wpList_load_met rfl 26 (.tmp 2) rfl w.heap.size rfl 26 AR (0, 0) _ GR.out Try.underlying26 ⟨_, rfl⟩ IA.out ?_)
  refine (RT.out _ _ NR.out).mono ?_
  rintro e w8 ⟨rfl, hb⟩
  have B0 := Lib.hid (B0.out.trans (hb.mono B0.out.size))
  have GR := Lib.hid ((hb.block _ (Array.getElem?_eq_some_iff.1 GR.out).1).trans GR.out)
  have SB := Lib.hid (SB.out.below hb)
  have NR := Lib.hid (NR.out.below hb)
  have GY := Lib.hid ((hb.block _ (Array.getElem?_eq_some_iff.1 GY.out).1).trans GY.out)
  have NY := Lib.hid (NY.out.below hb)
  have SV := Lib.hid (SV.out.below hb)
  clear hb
  have s1 := SB.out.str
  have s2 := SV.out.str
  have eqv := EQV.out
  go_wp2_with fail
  go_ret
  exact ⟨rfl, B0.out⟩
set_option maxRecDepth 100000 in
set_option maxHeartbeats 8000000 in
theorem walk_yes_not (n : NV) (hok : n.okP)  (hf : ∀ p ∈ n.qs, 0 ≤ p.1 ∧ p.1 ≤ 4294967295) (v u : Value) (xs : List Int) (w : World) (hv : ND w v n) (hs : Sees w u xs) (hg : greatB n = false) (hl : xs.length ≤ 2000) (hr : rightB n.leaf n.ks n.vs.length n.qs.length = true) (hx : isN xs = false) : Calls Try.prog 4 #[v, u] w (AliveP w) := by
  obtain ⟨x, cap, rfl, _⟩ := hs.form
  have hl' : (xs.length : Int) ≤ 2000 := by omega
  have hz := z26
  obtain ⟨Z, hZ⟩ : ∃ Z : Array Value, Z = #[.bool false, .slice none 0 0, .slice none 0 0, .slice none 0 0] := ⟨_, rfl⟩
  rw [← hZ] at hz
  have Z4 : Hid (Z.size = 4) := by show _ = _; rw [hZ]; rfl
  clear hZ
  obtain ⟨K, V, Q, rfl, hrest⟩ := id hv
  clear hrest
  obtain ⟨AR, hAR⟩ : ∃ AR : Array Value, AR = #[.bool n.leaf, K, V, Q] := ⟨_, rfl⟩
  have IA : Hid ((Try.prog.info? 26).map (·.size) = some AR.size) := by show _ = _; rw [hAR]; exact size26' _ _ _ _
  rw [← hAR] at hv
  rw [← hAR]
  clear hAR
  obtain ⟨W0, hW0⟩ : ∃ W0, W0 = w.alloc (.cells AR 26) := ⟨_, rfl⟩
  have hb : Below w.heap.size w W0 := by rw [hW0]; exact (Below.refl _ _).alloc (Nat.le_refl _) _
  have B0 := Lib.hid hb
  have GR : Hid (W0.heap[w.heap.size]? = some (.cells AR 26 (0, 0))) := by show _ = _; rw [hW0]; exact heap_alloc_new w _
  have SB := Lib.hid (hs.below hb)
  have NR := Lib.hid (hv.below hb)
  have HW0 := Lib.hid hW0
  have GT : Hid (∀ v W, ND W v n → Calls Try.prog 7 #[v] W fun e w' => e = .returned (.bool false) ∧ Below W.heap.size W w') := fun v W h => by have := great v n W h; rw [hg] at this; exact this
  have RT : Hid (∀ v W, ND W v n → Calls Try.prog 12 #[v] W fun e w' => e = .returned (.bool true) ∧ Below W.heap.size W w') := fun v W h => by have := rightN v n W h; rw [hr] at this; exact this
  have HB := Lib.hid (nB_512 hok hr)
  have WR : Hid (∀ v W, ND W v n → Calls Try.prog 10 #[v] W fun e w' => ∃ q, e = .returned (.tuple #[q, .int .i64 0]) ∧ Sees w' q (nB n) ∧ Below W.heap.size W w') := fun v W h => by
    have := write v n W h hf
    unfold WriteP wrE wrV at this
    rw [if_pos hr, if_pos hr] at this
    exact this
  have RD : Hid (∀ v W, Sees W v (nB n) → Calls Try.prog 15 #[v] W fun e w' => ∃ u, e = .returned (.tuple #[u, .int .i64 0]) ∧ ND w' u n ∧ Below W.heap.size W w') := fun v W h => by
    have := read v _ W h (by rw [HB.out]; decide)
    unfold ReadP at this
    rw [if_pos (is_nB hok hf hr), if_pos (is_nB hok hf hr), rd_nB hok hf hr] at this
    exact this
  have SM : Hid (∀ v u W, ND W v n → ND W u n → Calls Try.prog 18 #[v, u] W fun e w' => e = .returned (.bool true) ∧ Below W.heap.size W w') := fun v u W h k => by
    have := same v u n n W h k
    rw [show sameB n n = true by simp [sameB]] at this
    exact this
  have RX : Hid (∀ v W, Sees W v xs → Calls Try.prog 15 #[v] W fun e w' => ∃ u, e = .returned (.tuple #[u, .int .i64 3]) ∧ ND w' u nz ∧ Below W.heap.size W w') := fun v W h => by
    have := read v _ W h (by omega)
    unfold ReadP at this
    rw [if_neg (by rw [hx]; decide), if_neg (by rw [hx]; decide)] at this
    exact this
  have WX : Hid (∀ v W, ND W v nz → Calls Try.prog 10 #[v] W fun e w' => ∃ q, e = .returned (.tuple #[q, .int .i64 3]) ∧ Sees w' q [] ∧ Below W.heap.size W w') := fun v W h => by
    have := write v _ W h (by intro p hp; simp [nz] at hp)
    unfold WriteP at this
    rw [nz_wrE] at this
    exact this
  generalize hm : nz = m at *
  clear hm
  have AL := Lib.hid alive8
  clear hW0 hb hv hs hok hf hg hr hx
  generalize nB n = B1 at *
  go_enter Try.func4, Try.ntmps4
  go_upto_region 1 with (fail)
  rw [← HW0.out]
  go_wp2_with (refine wpList_load_row rfl 26 (.tmp 2) rfl w.heap.size rfl 26 AR (0, 0) _ GR.out Try.underlying26 rfl IA.out ?_)
  refine (GT.out _ _ NR.out).mono ?_
  rintro e w1 ⟨rfl, hb⟩
  have B0 := Lib.hid (B0.out.trans (hb.mono B0.out.size))
  have GR := Lib.hid ((hb.block _ (Array.getElem?_eq_some_iff.1 GR.out).1).trans GR.out)
  have SB := Lib.hid (SB.out.below hb)
  have NR := Lib.hid (NR.out.below hb)
  clear hb
  go_wp2_with (refine wpList_load_row rfl 26 (.tmp 2) rfl w.heap.size rfl 26 AR (0, 0) _ GR.out Try.underlying26 rfl IA.out ?_)
  refine (WR.out _ _ NR.out).mono ?_
  rintro e w2 ⟨q, rfl, hq, hb⟩
  obtain ⟨gq, oq, cq, rfl⟩ := Sees_block hq HB.out
  have B0 := Lib.hid (B0.out.trans (hb.mono B0.out.size))
  have GR := Lib.hid ((hb.block _ (Array.getElem?_eq_some_iff.1 GR.out).1).trans GR.out)
  have SB := Lib.hid (SB.out.below hb)
  have NR := Lib.hid (NR.out.below hb)
  clear hb
  have QS := Lib.hid hq
  clear hq
  go_wp2_with fail
  refine (RD.out _ _ QS.out).mono ?_
  clear QS
  rintro e w3 ⟨u3, rfl, hn, hb⟩
  obtain ⟨KX, VX, QX, rfl, hrest⟩ := id hn
  clear hrest
  obtain ⟨AX, hAX⟩ : ∃ AS : Array Value, AS = #[.bool n.leaf, KX, VX, QX] := ⟨_, rfl⟩
  have IX : Hid ((Try.prog.info? 26).map (·.size) = some AX.size) := by show _ = _; rw [hAX]; exact size26' _ _ _ _
  have SX : Hid (Z.size = AX.size) := by show _ = _; rw [Z4.out, hAX]; rfl
  have OX := Lib.hid (nd_one hn hAX)
  rw [← hAX] at hn
  rw [← hAX]
  clear hAX
  have B0 := Lib.hid (B0.out.trans (hb.mono B0.out.size))
  have GR := Lib.hid ((hb.block _ (Array.getElem?_eq_some_iff.1 GR.out).1).trans GR.out)
  have SB := Lib.hid (SB.out.below hb)
  have NR := Lib.hid (NR.out.below hb)
  clear hb
  have hb : Below w3.heap.size w3 (w3.alloc (.cells AX 26)) := (Below.refl _ _).alloc (Nat.le_refl _) _
  have GN := Lib.hid (heap_alloc_new w3 (.cells Z 26))
  have RW := Lib.hid (alloc_setRowT w3 Z AX 26 _ rfl)
  have GX := Lib.hid (heap_alloc_new w3 (.cells AX 26))
  have NX := Lib.hid (hn.below hb)
  clear hn
  have B0 := Lib.hid (B0.out.trans (hb.mono B0.out.size))
  have GR := Lib.hid ((hb.block _ (Array.getElem?_eq_some_iff.1 GR.out).1).trans GR.out)
  have SB := Lib.hid (SB.out.below hb)
  have NR := Lib.hid (NR.out.below hb)
  clear hb
  go_upto_region 6 with (refine wpList_store_row rfl 26 (.tmp 7) (.tmp 31) rfl w3.heap.size AX rfl rfl 26 Z GN.out IX.out SX.out OX.out ?_)
  rw [RW.out]
  try simp only [Act.put]
  generalize w3.alloc (.cells AX 26) = vX at *
  generalize w3.heap.size = gX at *
  clear GN RW
  go_wp2_with (first
    | (refine wpList_load_met rfl 26 (.tmp 2) rfl w.heap.size rfl 26 AR (0, 0) _ GR.out Try.underlying26 ⟨_, rfl⟩ IA.out ?_)
    | (refine wpList_load_met rfl 26 (.tmp 7) rfl gX rfl 26 AX (0, 0) _ GX.out Try.underlying26 ⟨_, rfl⟩ IX.out ?_))
  refine (SM.out _ _ _ NX.out NR.out).mono ?_
  rintro e w4 ⟨rfl, hb⟩
  have B0 := Lib.hid (B0.out.trans (hb.mono B0.out.size))
  have GR := Lib.hid ((hb.block _ (Array.getElem?_eq_some_iff.1 GR.out).1).trans GR.out)
  have SB := Lib.hid (SB.out.below hb)
  have NR := Lib.hid (NR.out.below hb)
  have GX := Lib.hid ((hb.block _ (Array.getElem?_eq_some_iff.1 GX.out).1).trans GX.out)
  have NX := Lib.hid (NX.out.below hb)
  clear hb
  go_wp2_with fail
  refine (RX.out _ _ SB.out).mono ?_
  rintro e w5 ⟨u5, rfl, hn, hb⟩
  obtain ⟨KY, VY, QY, rfl, hrest⟩ := id hn
  clear hrest
  obtain ⟨AY, hAY⟩ : ∃ AS : Array Value, AS = #[.bool m.leaf, KY, VY, QY] := ⟨_, rfl⟩
  have IY : Hid ((Try.prog.info? 26).map (·.size) = some AY.size) := by show _ = _; rw [hAY]; exact size26' _ _ _ _
  have SY : Hid (Z.size = AY.size) := by show _ = _; rw [Z4.out, hAY]; rfl
  have OY := Lib.hid (nd_one hn hAY)
  rw [← hAY] at hn
  rw [← hAY]
  clear hAY
  have B0 := Lib.hid (B0.out.trans (hb.mono B0.out.size))
  have GR := Lib.hid ((hb.block _ (Array.getElem?_eq_some_iff.1 GR.out).1).trans GR.out)
  have SB := Lib.hid (SB.out.below hb)
  have NR := Lib.hid (NR.out.below hb)
  have GX := Lib.hid ((hb.block _ (Array.getElem?_eq_some_iff.1 GX.out).1).trans GX.out)
  have NX := Lib.hid (NX.out.below hb)
  clear hb
  have hb : Below w5.heap.size w5 (w5.alloc (.cells AY 26)) := (Below.refl _ _).alloc (Nat.le_refl _) _
  have GN := Lib.hid (heap_alloc_new w5 (.cells Z 26))
  have RW := Lib.hid (alloc_setRowT w5 Z AY 26 _ rfl)
  have GY := Lib.hid (heap_alloc_new w5 (.cells AY 26))
  have NY := Lib.hid (hn.below hb)
  clear hn
  have B0 := Lib.hid (B0.out.trans (hb.mono B0.out.size))
  have GR := Lib.hid ((hb.block _ (Array.getElem?_eq_some_iff.1 GR.out).1).trans GR.out)
  have SB := Lib.hid (SB.out.below hb)
  have NR := Lib.hid (NR.out.below hb)
  have GX := Lib.hid ((hb.block _ (Array.getElem?_eq_some_iff.1 GX.out).1).trans GX.out)
  have NX := Lib.hid (NX.out.below hb)
  clear hb
  go_upto_region 9 with (refine wpList_store_row rfl 26 (.tmp 9) (.tmp 49) rfl w5.heap.size AY rfl rfl 26 Z GN.out IY.out SY.out OY.out ?_)
  rw [RW.out]
  try simp only [Act.put]
  generalize w5.alloc (.cells AY 26) = vY at *
  generalize w5.heap.size = gY at *
  clear GN RW
  go_wp2_with (refine wpList_load_row rfl 26 (.tmp 9) rfl gY rfl 26 AY (0, 0) _ GY.out Try.underlying26 rfl IY.out ?_)
  refine (WX.out _ _ NY.out).mono ?_
  rintro e w6 ⟨q6, rfl, hq, hb⟩
  have SV := Lib.hid hq
  obtain ⟨ux, uc, rfl, _⟩ := hq.form
  clear hq
  have B0 := Lib.hid (B0.out.trans (hb.mono B0.out.size))
  have GR := Lib.hid ((hb.block _ (Array.getElem?_eq_some_iff.1 GR.out).1).trans GR.out)
  have SB := Lib.hid (SB.out.below hb)
  have NR := Lib.hid (NR.out.below hb)
  have GX := Lib.hid ((hb.block _ (Array.getElem?_eq_some_iff.1 GX.out).1).trans GX.out)
  have NX := Lib.hid (NX.out.below hb)
  have GY := Lib.hid ((hb.block _ (Array.getElem?_eq_some_iff.1 GY.out).1).trans GY.out)
  have NY := Lib.hid (NY.out.below hb)
  clear hb
  go_wp2_with fail
  refine (AL.out _).mono ?_
  rintro e w7 ⟨rfl, hb⟩
  have B0 := Lib.hid (B0.out.trans (hb.mono B0.out.size))
  have GR := Lib.hid ((hb.block _ (Array.getElem?_eq_some_iff.1 GR.out).1).trans GR.out)
  have SB := Lib.hid (SB.out.below hb)
  have NR := Lib.hid (NR.out.below hb)
  have GX := Lib.hid ((hb.block _ (Array.getElem?_eq_some_iff.1 GX.out).1).trans GX.out)
  have NX := Lib.hid (NX.out.below hb)
  have GY := Lib.hid ((hb.block _ (Array.getElem?_eq_some_iff.1 GY.out).1).trans GY.out)
  have NY := Lib.hid (NY.out.below hb)
  have SV := Lib.hid (SV.out.below hb)
  clear hb
  go_wp2_with (refine wpList_load_met rfl 26 (.tmp 2) rfl w.heap.size rfl 26 AR (0, 0) _ GR.out Try.underlying26 ⟨_, rfl⟩ IA.out ?_)
  refine (RT.out _ _ NR.out).mono ?_
  rintro e w8 ⟨rfl, hb⟩
  have B0 := Lib.hid (B0.out.trans (hb.mono B0.out.size))
  have GR := Lib.hid ((hb.block _ (Array.getElem?_eq_some_iff.1 GR.out).1).trans GR.out)
  have SB := Lib.hid (SB.out.below hb)
  have NR := Lib.hid (NR.out.below hb)
  have GX := Lib.hid ((hb.block _ (Array.getElem?_eq_some_iff.1 GX.out).1).trans GX.out)
  have NX := Lib.hid (NX.out.below hb)
  have GY := Lib.hid ((hb.block _ (Array.getElem?_eq_some_iff.1 GY.out).1).trans GY.out)
  have NY := Lib.hid (NY.out.below hb)
  have SV := Lib.hid (SV.out.below hb)
  clear hb
  have s1 := SB.out.str
  have s2 := SV.out.str
  go_wp2_with fail
  go_ret
  exact ⟨rfl, B0.out⟩
set_option maxRecDepth 100000 in
set_option maxHeartbeats 8000000 in
theorem walk_yes_is (n : NV) (hok : n.okP)  (hf : ∀ p ∈ n.qs, 0 ≤ p.1 ∧ p.1 ≤ 4294967295) (v u : Value) (xs : List Int) (w : World) (hv : ND w v n) (hs : Sees w u xs) (hg : greatB n = false) (hl : xs.length ≤ 2000) (hr : rightB n.leaf n.ks n.vs.length n.qs.length = true) (hx : isN xs = true) : Calls Try.prog 4 #[v, u] w (AliveP w) := by
  obtain ⟨x, cap, rfl, _⟩ := hs.form
  have hl' : (xs.length : Int) ≤ 2000 := by omega
  have hz := z26
  obtain ⟨Z, hZ⟩ : ∃ Z : Array Value, Z = #[.bool false, .slice none 0 0, .slice none 0 0, .slice none 0 0] := ⟨_, rfl⟩
  rw [← hZ] at hz
  have Z4 : Hid (Z.size = 4) := by show _ = _; rw [hZ]; rfl
  clear hZ
  obtain ⟨K, V, Q, rfl, hrest⟩ := id hv
  clear hrest
  obtain ⟨AR, hAR⟩ : ∃ AR : Array Value, AR = #[.bool n.leaf, K, V, Q] := ⟨_, rfl⟩
  have IA : Hid ((Try.prog.info? 26).map (·.size) = some AR.size) := by show _ = _; rw [hAR]; exact size26' _ _ _ _
  rw [← hAR] at hv
  rw [← hAR]
  clear hAR
  obtain ⟨W0, hW0⟩ : ∃ W0, W0 = w.alloc (.cells AR 26) := ⟨_, rfl⟩
  have hb : Below w.heap.size w W0 := by rw [hW0]; exact (Below.refl _ _).alloc (Nat.le_refl _) _
  have B0 := Lib.hid hb
  have GR : Hid (W0.heap[w.heap.size]? = some (.cells AR 26 (0, 0))) := by show _ = _; rw [hW0]; exact heap_alloc_new w _
  have SB := Lib.hid (hs.below hb)
  have NR := Lib.hid (hv.below hb)
  have HW0 := Lib.hid hW0
  have GT : Hid (∀ v W, ND W v n → Calls Try.prog 7 #[v] W fun e w' => e = .returned (.bool false) ∧ Below W.heap.size W w') := fun v W h => by have := great v n W h; rw [hg] at this; exact this
  have RT : Hid (∀ v W, ND W v n → Calls Try.prog 12 #[v] W fun e w' => e = .returned (.bool true) ∧ Below W.heap.size W w') := fun v W h => by have := rightN v n W h; rw [hr] at this; exact this
  have HB := Lib.hid (nB_512 hok hr)
  have WR : Hid (∀ v W, ND W v n → Calls Try.prog 10 #[v] W fun e w' => ∃ q, e = .returned (.tuple #[q, .int .i64 0]) ∧ Sees w' q (nB n) ∧ Below W.heap.size W w') := fun v W h => by
    have := write v n W h hf
    unfold WriteP wrE wrV at this
    rw [if_pos hr, if_pos hr] at this
    exact this
  have RD : Hid (∀ v W, Sees W v (nB n) → Calls Try.prog 15 #[v] W fun e w' => ∃ u, e = .returned (.tuple #[u, .int .i64 0]) ∧ ND w' u n ∧ Below W.heap.size W w') := fun v W h => by
    have := read v _ W h (by rw [HB.out]; decide)
    unfold ReadP at this
    rw [if_pos (is_nB hok hf hr), if_pos (is_nB hok hf hr), rd_nB hok hf hr] at this
    exact this
  have SM : Hid (∀ v u W, ND W v n → ND W u n → Calls Try.prog 18 #[v, u] W fun e w' => e = .returned (.bool true) ∧ Below W.heap.size W w') := fun v u W h k => by
    have := same v u n n W h k
    rw [show sameB n n = true by simp [sameB]] at this
    exact this
  have RX : Hid (∀ v W, Sees W v xs → Calls Try.prog 15 #[v] W fun e w' => ∃ u, e = .returned (.tuple #[u, .int .i64 0]) ∧ ND w' u (rdN xs) ∧ Below W.heap.size W w') := fun v W h => by
    have := read v _ W h (by omega)
    unfold ReadP at this
    rw [if_pos hx, if_pos hx] at this
    exact this
  have WX : Hid (∀ v W, ND W v (rdN xs) → Calls Try.prog 10 #[v] W fun e w' => ∃ q, e = .returned (.tuple #[q, .int .i64 0]) ∧ Sees w' q xs ∧ Below W.heap.size W w') := fun v W h => by
    have := write v _ W h (rdN_fit hs.1)
    obtain ⟨e1, e2⟩ := isN_parts hx
    unfold WriteP wrE wrV at this
    rw [if_pos e1, if_pos e1, e2] at this
    exact this
  have EQV : Hid (((strOfNums xs).toList == (strOfNums xs).toList) = true) := beq_self_eq_true _
  generalize hm : rdN xs = m at *
  clear hm
  have AL := Lib.hid alive8
  clear hW0 hb hv hs hok hf hg hr hx
  generalize nB n = B1 at *
  go_enter Try.func4, Try.ntmps4
  go_upto_region 1 with (fail)
  rw [← HW0.out]
  go_wp2_with (refine wpList_load_row rfl 26 (.tmp 2) rfl w.heap.size rfl 26 AR (0, 0) _ GR.out Try.underlying26 rfl IA.out ?_)
  refine (GT.out _ _ NR.out).mono ?_
  rintro e w1 ⟨rfl, hb⟩
  have B0 := Lib.hid (B0.out.trans (hb.mono B0.out.size))
  have GR := Lib.hid ((hb.block _ (Array.getElem?_eq_some_iff.1 GR.out).1).trans GR.out)
  have SB := Lib.hid (SB.out.below hb)
  have NR := Lib.hid (NR.out.below hb)
  clear hb
  go_wp2_with (refine wpList_load_row rfl 26 (.tmp 2) rfl w.heap.size rfl 26 AR (0, 0) _ GR.out Try.underlying26 rfl IA.out ?_)
  refine (WR.out _ _ NR.out).mono ?_
  rintro e w2 ⟨q, rfl, hq, hb⟩
  obtain ⟨gq, oq, cq, rfl⟩ := Sees_block hq HB.out
  have B0 := Lib.hid (B0.out.trans (hb.mono B0.out.size))
  have GR := Lib.hid ((hb.block _ (Array.getElem?_eq_some_iff.1 GR.out).1).trans GR.out)
  have SB := Lib.hid (SB.out.below hb)
  have NR := Lib.hid (NR.out.below hb)
  clear hb
  have QS := Lib.hid hq
  clear hq
  go_wp2_with fail
  refine (RD.out _ _ QS.out).mono ?_
  clear QS
  rintro e w3 ⟨u3, rfl, hn, hb⟩
  obtain ⟨KX, VX, QX, rfl, hrest⟩ := id hn
  clear hrest
  obtain ⟨AX, hAX⟩ : ∃ AS : Array Value, AS = #[.bool n.leaf, KX, VX, QX] := ⟨_, rfl⟩
  have IX : Hid ((Try.prog.info? 26).map (·.size) = some AX.size) := by show _ = _; rw [hAX]; exact size26' _ _ _ _
  have SX : Hid (Z.size = AX.size) := by show _ = _; rw [Z4.out, hAX]; rfl
  have OX := Lib.hid (nd_one hn hAX)
  rw [← hAX] at hn
  rw [← hAX]
  clear hAX
  have B0 := Lib.hid (B0.out.trans (hb.mono B0.out.size))
  have GR := Lib.hid ((hb.block _ (Array.getElem?_eq_some_iff.1 GR.out).1).trans GR.out)
  have SB := Lib.hid (SB.out.below hb)
  have NR := Lib.hid (NR.out.below hb)
  clear hb
  have hb : Below w3.heap.size w3 (w3.alloc (.cells AX 26)) := (Below.refl _ _).alloc (Nat.le_refl _) _
  have GN := Lib.hid (heap_alloc_new w3 (.cells Z 26))
  have RW := Lib.hid (alloc_setRowT w3 Z AX 26 _ rfl)
  have GX := Lib.hid (heap_alloc_new w3 (.cells AX 26))
  have NX := Lib.hid (hn.below hb)
  clear hn
  have B0 := Lib.hid (B0.out.trans (hb.mono B0.out.size))
  have GR := Lib.hid ((hb.block _ (Array.getElem?_eq_some_iff.1 GR.out).1).trans GR.out)
  have SB := Lib.hid (SB.out.below hb)
  have NR := Lib.hid (NR.out.below hb)
  clear hb
  go_upto_region 6 with (refine wpList_store_row rfl 26 (.tmp 7) (.tmp 31) rfl w3.heap.size AX rfl rfl 26 Z GN.out IX.out SX.out OX.out ?_)
  rw [RW.out]
  try simp only [Act.put]
  generalize w3.alloc (.cells AX 26) = vX at *
  generalize w3.heap.size = gX at *
  clear GN RW
  go_wp2_with (first
    | (refine wpList_load_met rfl 26 (.tmp 2) rfl w.heap.size rfl 26 AR (0, 0) _ GR.out Try.underlying26 ⟨_, rfl⟩ IA.out ?_)
    | (refine wpList_load_met rfl 26 (.tmp 7) rfl gX rfl 26 AX (0, 0) _ GX.out Try.underlying26 ⟨_, rfl⟩ IX.out ?_))
  refine (SM.out _ _ _ NX.out NR.out).mono ?_
  rintro e w4 ⟨rfl, hb⟩
  have B0 := Lib.hid (B0.out.trans (hb.mono B0.out.size))
  have GR := Lib.hid ((hb.block _ (Array.getElem?_eq_some_iff.1 GR.out).1).trans GR.out)
  have SB := Lib.hid (SB.out.below hb)
  have NR := Lib.hid (NR.out.below hb)
  have GX := Lib.hid ((hb.block _ (Array.getElem?_eq_some_iff.1 GX.out).1).trans GX.out)
  have NX := Lib.hid (NX.out.below hb)
  clear hb
  go_wp2_with fail
  refine (RX.out _ _ SB.out).mono ?_
  rintro e w5 ⟨u5, rfl, hn, hb⟩
  obtain ⟨KY, VY, QY, rfl, hrest⟩ := id hn
  clear hrest
  obtain ⟨AY, hAY⟩ : ∃ AS : Array Value, AS = #[.bool m.leaf, KY, VY, QY] := ⟨_, rfl⟩
  have IY : Hid ((Try.prog.info? 26).map (·.size) = some AY.size) := by show _ = _; rw [hAY]; exact size26' _ _ _ _
  have SY : Hid (Z.size = AY.size) := by show _ = _; rw [Z4.out, hAY]; rfl
  have OY := Lib.hid (nd_one hn hAY)
  rw [← hAY] at hn
  rw [← hAY]
  clear hAY
  have B0 := Lib.hid (B0.out.trans (hb.mono B0.out.size))
  have GR := Lib.hid ((hb.block _ (Array.getElem?_eq_some_iff.1 GR.out).1).trans GR.out)
  have SB := Lib.hid (SB.out.below hb)
  have NR := Lib.hid (NR.out.below hb)
  have GX := Lib.hid ((hb.block _ (Array.getElem?_eq_some_iff.1 GX.out).1).trans GX.out)
  have NX := Lib.hid (NX.out.below hb)
  clear hb
  have hb : Below w5.heap.size w5 (w5.alloc (.cells AY 26)) := (Below.refl _ _).alloc (Nat.le_refl _) _
  have GN := Lib.hid (heap_alloc_new w5 (.cells Z 26))
  have RW := Lib.hid (alloc_setRowT w5 Z AY 26 _ rfl)
  have GY := Lib.hid (heap_alloc_new w5 (.cells AY 26))
  have NY := Lib.hid (hn.below hb)
  clear hn
  have B0 := Lib.hid (B0.out.trans (hb.mono B0.out.size))
  have GR := Lib.hid ((hb.block _ (Array.getElem?_eq_some_iff.1 GR.out).1).trans GR.out)
  have SB := Lib.hid (SB.out.below hb)
  have NR := Lib.hid (NR.out.below hb)
  have GX := Lib.hid ((hb.block _ (Array.getElem?_eq_some_iff.1 GX.out).1).trans GX.out)
  have NX := Lib.hid (NX.out.below hb)
  clear hb
  go_upto_region 9 with (refine wpList_store_row rfl 26 (.tmp 9) (.tmp 49) rfl w5.heap.size AY rfl rfl 26 Z GN.out IY.out SY.out OY.out ?_)
  rw [RW.out]
  try simp only [Act.put]
  generalize w5.alloc (.cells AY 26) = vY at *
  generalize w5.heap.size = gY at *
  clear GN RW
  go_wp2_with (refine wpList_load_row rfl 26 (.tmp 9) rfl gY rfl 26 AY (0, 0) _ GY.out Try.underlying26 rfl IY.out ?_)
  refine (WX.out _ _ NY.out).mono ?_
  rintro e w6 ⟨q6, rfl, hq, hb⟩
  have SV := Lib.hid hq
  obtain ⟨ux, uc, rfl, _⟩ := hq.form
  clear hq
  have B0 := Lib.hid (B0.out.trans (hb.mono B0.out.size))
  have GR := Lib.hid ((hb.block _ (Array.getElem?_eq_some_iff.1 GR.out).1).trans GR.out)
  have SB := Lib.hid (SB.out.below hb)
  have NR := Lib.hid (NR.out.below hb)
  have GX := Lib.hid ((hb.block _ (Array.getElem?_eq_some_iff.1 GX.out).1).trans GX.out)
  have NX := Lib.hid (NX.out.below hb)
  have GY := Lib.hid ((hb.block _ (Array.getElem?_eq_some_iff.1 GY.out).1).trans GY.out)
  have NY := Lib.hid (NY.out.below hb)
  clear hb
  go_wp2_with fail
  refine (AL.out _).mono ?_
  rintro e w7 ⟨rfl, hb⟩
  have B0 := Lib.hid (B0.out.trans (hb.mono B0.out.size))
  have GR := Lib.hid ((hb.block _ (Array.getElem?_eq_some_iff.1 GR.out).1).trans GR.out)
  have SB := Lib.hid (SB.out.below hb)
  have NR := Lib.hid (NR.out.below hb)
  have GX := Lib.hid ((hb.block _ (Array.getElem?_eq_some_iff.1 GX.out).1).trans GX.out)
  have NX := Lib.hid (NX.out.below hb)
  have GY := Lib.hid ((hb.block _ (Array.getElem?_eq_some_iff.1 GY.out).1).trans GY.out)
  have NY := Lib.hid (NY.out.below hb)
  have SV := Lib.hid (SV.out.below hb)
  clear hb
  go_wp2_with (refine wpList_load_met rfl 26 (.tmp 2) rfl w.heap.size rfl 26 AR (0, 0) _ GR.out Try.underlying26 ⟨_, rfl⟩ IA.out ?_)
  refine (RT.out _ _ NR.out).mono ?_
  rintro e w8 ⟨rfl, hb⟩
  have B0 := Lib.hid (B0.out.trans (hb.mono B0.out.size))
  have GR := Lib.hid ((hb.block _ (Array.getElem?_eq_some_iff.1 GR.out).1).trans GR.out)
  have SB := Lib.hid (SB.out.below hb)
  have NR := Lib.hid (NR.out.below hb)
  have GX := Lib.hid ((hb.block _ (Array.getElem?_eq_some_iff.1 GX.out).1).trans GX.out)
  have NX := Lib.hid (NX.out.below hb)
  have GY := Lib.hid ((hb.block _ (Array.getElem?_eq_some_iff.1 GY.out).1).trans GY.out)
  have NY := Lib.hid (NY.out.below hb)
  have SV := Lib.hid (SV.out.below hb)
  clear hb
  have s1 := SB.out.str
  have s2 := SV.out.str
  have eqv := EQV.out
  go_wp2_with fail
  go_ret
  exact ⟨rfl, B0.out⟩
end Go.Proofs.Ytnifaldgofmciaa
