/-
  Contracts: disk.Crash, Fail, SetReg, Reg, as texts DJ and DO, for texts in blocks of a kind. Condition: the disk lies in memory as said.
-/
import Derived.Test.YtklhnibmpdaioaaPI
import Derived.Deep.MidRow
namespace Go.Proofs.Ytklhnibmpdaioaa.pv
open Go.RowKit
variable {P : Nat → Prop}
section
variable {w w' : World} {g N sb hb : Nat} {wv : Value} {su : Nat → Option Nat} {ws : List (Nat × Nat)} {rg : List Value} {c p : Int} {d : Bool} {K : Nat}
set_option maxRecDepth 100000 in
set_option maxHeartbeats 1000000 in
theorem crashD (h : DK P w g N sb hb wv su ws rg c p d K) (x : Option Addr) (n k : Nat) (f : Nat → Int) (hn : n ≤ 9223372036854775807)
    (hx : ∀ j, j < n → 0 ≤ f j ∧ f j ≤ 255 ∧ ∃ b o, x = some ⟨b, o, none⟩ ∧ b < w.heap.size ∧ ¬ Dt g sb hb wv b ∧ w.cell? ⟨b, o + j, none⟩ = some (.int .u8 (f j))) :
    Calls Try.prog 31 #[.pointer (some ⟨g, 0, none⟩), .slice x n k] w (DkP P w g N sb hb wv (keepS (kbit f n) su ws ws.length) [] rg c (-1) false K (.int .i64 0)) := by
  have n1 := h.n1
  obtain ⟨kc, hkc⟩ : ∃ kc, kc = w.heap.size := ⟨_, rfl⟩
  obtain ⟨w1, hw1⟩ : ∃ w1, w1 = w.alloc (.cells #[.slice x n k] 32) := ⟨_, rfl⟩
  have hbw1 : Below w.heap.size w w1 := by rw [hw1]; exact (Below.refl _ _).alloc (Nat.le_refl _) _
  have h1 := h.below hbw1
  have hkr : w1.heap[kc]? = some (.cells #[.slice x n k] 32 (0, 0)) := by rw [hw1, hkc]; exact heap_alloc_new _ _
  have hkn : ¬ Dt g sb hb wv kc := by
    have q1 := h.lt
    obtain ⟨_, _, m1, _⟩ := h.sure
    obtain ⟨_, _, m2, _⟩ := h.shown
    obtain ⟨vs, r, _⟩ := h.waits
    have q2 := m1.lt
    have q3 := m2.lt
    intro hd
    rcases hd with e | e | e | e
    · omega
    · omega
    · omega
    · have := (r.lt kc e).1; omega
  have hwl : ws.length ≤ 1000000 := by obtain ⟨_, _, _, hb0, _⟩ := h.sure; have := h.wl; omega
  have ST := Lib.hid (settleD h1 68 #[.pointer (some ⟨kc, 0, none⟩)] (kbit f n) eg68 (fun i W hi hm =>
    clos68 i (by omega) kc x n k f W ((mods_cell hm (Array.getElem?_eq_some_iff.1 hkr).1 hkn).trans (by rw [cell_of_row _ _ _ _ _ _ hkr]; rfl)) hn (fun j hj => by
      obtain ⟨p0, p1, b, o, e, hbl, hnd, hcell⟩ := hx j hj
      have q := hbw1.size
      exact ⟨p0, p1, b, o, e, (mods_cell hm (by omega) hnd).trans ((hbw1.cell (p := ⟨b, o + j, none⟩) hbl).trans hcell)⟩)))
  have SZ := Lib.hid (sizeD h1)
  have HB1 := Lib.hid hbw1
  have hz : ((N : Int) == 0) = false := by simp; omega
  have HW1 := Lib.hid hw1
  have HKC := Lib.hid hkc
  have hmf : ∀ (fn : Fn) (first cap : Array Value) (w : World), (Instr.makeFunc fn first cap).run Try.prog w = .ok (.func fn first cap) w := fun _ _ _ _ => rfl
  clear h h1 hw1 hbw1 hkr hkn hkc hx hwl
  go_enter Try.func31, Try.ntmps31
  go_wp2_with fail
  rw [← HW1.out, ← HKC.out]
  refine SZ.out.mono ?_
  rintro e w' ⟨rfl, rfl⟩
  go_wp2_with fail
  refine ST.out.mono ?_
  rintro e w2 ⟨rfl, d2, m2⟩
  have e69 := d2.c69
  have f69 := d2.fz 69
  have hm1 : Mods (fun j => j = g) w2 (w2.setCell ⟨g, 69, none⟩ (.int .i64 (-1))) := Mods.set (S := fun j => j = g) w2 ⟨g, 69, none⟩ _ rfl
  have d3 := d2.reset (by rw [row_set d2.row, dset_69 d2.len]) hm1
  have hm2 : Mods (fun j => j = g) (w2.setCell ⟨g, 69, none⟩ (.int .i64 (-1))) ((w2.setCell ⟨g, 69, none⟩ (.int .i64 (-1))).setCell ⟨g, 70, none⟩ (.bool false)) := Mods.set (S := fun j => j = g) _ ⟨g, 70, none⟩ _ rfl
  have d4 := d3.reset (by rw [row_set d3.row, dset_70 d3.len]) hm2
  have e70 := d3.c70
  have f70 := d3.fz 70
  have D4 := Lib.hid d4
  have M2 := Lib.hid (m2.trans (hm1.trans hm2 (fun b hb => .inl hb)) (fun b hb' => .inl (.inl hb')))
  clear d2 m2 hm1 d3 hm2 d4
  go_wp2_with fail
  go_ret
  exact ⟨_, rfl, D4.out, (Mods.of_below HB1.out).trans M2.out (fun b hb => .inl hb), anew_none _ _⟩
end
/-- A disk of the call's own. -/
structure LK (P : Nat → Prop) (w0 w : World) (g N sb hb : Nat) (wv : Value) (su : Nat → Option Nat) (ws : List (Nat × Nat)) (rg : List Value) (c p : Int) (d : Bool) (K : Nat) : Prop where
  dk : DK P w g N sb hb wv su ws rg c p d K
  b : Below w0.heap.size w0 w
  og : w0.heap.size ≤ g
  os : w0.heap.size ≤ sb
  oh : w0.heap.size ≤ hb
  ov : ∀ k, wv.ownBlock = some k → w0.heap.size ≤ k
section
variable {w0 w w' : World} {g N sb hb : Nat} {wv wv' : Value} {su su' : Nat → Option Nat} {ws ws' : List (Nat × Nat)} {rg rg' : List Value} {c p c' p' : Int} {d d' : Bool} {K K' : Nat}
theorem LK.step (h : LK P w0 w g N sb hb wv su ws rg c p d K) (k : DkW P w w' g N sb hb wv wv' su' ws' rg' c' p' d' K') : LK P w0 w' g N sb hb wv' su' ws' rg' c' p' d' K' := by
  refine ⟨k.dk, Mods.below h.b k.m h.b.size (fun b hb' => ?_), h.og, h.os, h.oh, fun j hj => ?_⟩
  · rcases hb' with rfl | rfl | rfl | e
    · exact h.og
    · exact h.os
    · exact h.oh
    · exact h.ov b e
  · rcases k.an j hj with e | e
    · exact h.ov j e
    · have := h.b.size; omega
theorem LK.below (h : LK P w0 w g N sb hb wv su ws rg c p d K) (b : Below w.heap.size w w') : LK P w0 w' g N sb hb wv su ws rg c p d K :=
  ⟨h.dk.below b, h.b.trans (b.mono h.b.size), h.og, h.os, h.oh, h.ov⟩
end
section
variable {w w' : World} {g N sb hb : Nat} {wv : Value} {su : Nat → Option Nat} {ws : List (Nat × Nat)} {rg : List Value} {c p : Int} {d : Bool} {K : Nat}
set_option maxRecDepth 100000 in
theorem failD_ok (h : DK P w g N sb hb wv su ws rg c p d K) (n : Nat) : Calls Try.prog 30 #[.pointer (some ⟨g, 0, none⟩), .int .i64 n] w (DkP P w g N sb hb wv su ws rg c n d K (.int .i64 0)) := by
  have n1 := h.n1
  have n2 := h.n2
  have A := Lib.hid (sizeD h)
  have c69 := h.c69
  have f69 := h.fz 69
  have hm : Mods (fun k => k = g) w (w.setCell ⟨g, 69, none⟩ (.int .i64 n)) := Mods.set (S := fun k => k = g) w ⟨g, 69, none⟩ _ rfl
  have hD := h.reset (by rw [row_set h.row, dset_69 h.len]) hm
  have HD := Lib.hid hD
  have HM := Lib.hid hm
  clear h hm hD
  have q1 : decide ((N : Int) = 0) = false := by simp; omega
  have q2 : decide ((n : Int) < 0) = false := by simp
  go_enter Try.func30, Try.ntmps30
  go_wp2_with fail
  refine A.out.mono ?_
  rintro e w' ⟨rfl, rfl⟩
  go_wp2_with fail
  go_ret
  exact ⟨wv, rfl, HD.out, HM.out.mono (fun b hb' => .inl (.inl hb')), anew_same _ _⟩
set_option maxRecDepth 100000 in
theorem failD_neg (h : DK P w g N sb hb wv su ws rg c p d K) (n : Int) (hn : n < 0) : Calls Try.prog 30 #[.pointer (some ⟨g, 0, none⟩), .int .i64 n] w fun e w' => e = .returned (.int .i64 1) ∧ w = w' := by
  have n1 := h.n1
  have n2 := h.n2
  have A := Lib.hid (sizeD h)
  clear h
  have q1 : decide ((N : Int) = 0) = false := by simp; omega
  have q2 : decide (n < 0) = true := by simp; omega
  go_enter Try.func30, Try.ntmps30
  go_wp2_with fail
  refine A.out.mono ?_
  rintro e w' ⟨rfl, rfl⟩
  go_wp2_with fail
  go_ret
  exact ⟨rfl, rfl⟩
/-- The register is turned too. -/
theorem DK.resetR (h : DK P w g N sb hb wv su ws rg c p d K) {rg' : List Value} (hl : rg'.length = 64) (row' : w'.heap[g]? = some (.cells (dcells N sb hb wv rg' c p d) 51 (0, 0))) (m : Mods (fun k => k = g) w w') : DK P w' g N sb hb wv su ws rg' c p d K := by
  obtain ⟨n1, f1, m1, b1, s1⟩ := h.sure
  obtain ⟨n2, f2, m2, b2, s2⟩ := h.shown
  obtain ⟨vs, r, q⟩ := h.waits
  obtain ⟨k1, k2, k3, k4⟩ := h.kinds
  have kb : ∀ b cs, w.heap[b]? = some (.cells cs 5 (0, 0)) → ¬ b = g := fun b cs hb e => k1 b cs hb (.inl e)
  exact ⟨h.n1, h.n2, row', hl, ⟨n1, f1, m1.mods m (fun e => k2 e.symm), b1, s1.mods m kb⟩, ⟨n2, f2, m2.mods m (fun e => k3 e.symm), b2, s2.mods m kb⟩, ⟨vs, r.mods m (fun k hk => (k4 k hk).1), WS.mods m kb q⟩, h.ne, h.wl⟩
theorem DK.range (h : DK P w g N sb hb wv su ws rg c p d K) : w.rangeAt g 4 rg := fun j v hv => by
  have hj : j < rg.length := (List.getElem?_eq_some_iff.1 hv).1
  rw [cell_of_row _ _ _ _ _ _ h.row, dcells_rg h.len j (by rw [← h.len]; exact hj), hv]
theorem DK.there (h : DK P w g N sb hb wv su ws rg c p d K) : w.there g 4 64 := fun j hj => by
  refine ⟨?_, h.fz _⟩
  rw [cell_of_row _ _ _ _ _ _ h.row, dcells_rg h.len j hj, List.getElem?_eq_getElem (by rw [h.len]; exact hj)]
  rfl
set_option maxRecDepth 100000 in
theorem setregD_isdown (h : DK P w g N sb hb wv su ws rg c p true K) (Z : Array Value) : Calls Try.prog 29 #[.pointer (some ⟨g, 0, none⟩), .agg Z] w fun e w' => e = .returned (.int .i64 30) ∧ Below w.heap.size w w' := by
  have A := Lib.hid (awakeD (h.below ((Below.refl _ _).alloc (Nat.le_refl _) (.cells Z 44))))
  clear h
  go_enter Try.func29, Try.ntmps29
  go_wp2_with fail
  refine A.out.mono ?_
  rintro e w' ⟨rfl, rfl⟩
  go_wp2_with fail
  go_ret
  exact ⟨rfl, (Below.refl _ _).alloc (Nat.le_refl _) _⟩
set_option maxRecDepth 100000 in
theorem setregD_down (h : DK P w g N sb hb wv su ws rg c 0 false K) (Z : Array Value) : Calls Try.prog 29 #[.pointer (some ⟨g, 0, none⟩), .agg Z] w (DkP P w g N sb hb wv su ws rg c 0 true K (.int .i64 30)) := by
  have hl := h.lt
  have hb := (Below.refl w.heap.size w).alloc (Nat.le_refl _) (.cells Z 44)
  have h1 := h.below hb
  have A := Lib.hid (awakeD h1)
  have M := Lib.hid (mayD_no h1)
  have HB := Lib.hid (Mods.of_below (S := fun k => k = g) hb)
  clear h h1 hb
  go_enter Try.func29, Try.ntmps29
  go_wp2_with fail
  refine A.out.mono ?_
  rintro e w' ⟨rfl, rfl⟩
  go_wp2_with fail
  refine M.out.mono ?_
  rintro e w2 ⟨rfl, d2, m2⟩
  have D2 := Lib.hid d2
  have M2 := Lib.hid (HB.out.trans m2 (fun _ h => .inl h))
  clear d2 m2
  go_wp2_with fail
  go_ret
  exact ⟨wv, rfl, D2.out, M2.out.mono (fun b hb' => .inl (.inl hb')), anew_same _ _⟩
set_option maxRecDepth 100000 in
theorem regD_isdown (h : DK P w g N sb hb wv su ws rg c p true K) : Calls Try.prog 25 #[.pointer (some ⟨g, 0, none⟩)] w fun e w' => e = .returned (.tuple #[.agg zer64, .int .i64 30]) ∧ Below w.heap.size w w' := by
  have hz := zero44
  have IZ : Hid ((Try.prog.info? 44).map (·.size) = some zer64.size) := info44s.trans (by rfl)
  have ON : Hid (zer64.all (·.oneCell') = true) := by show _ = _; decide +kernel
  generalize zer64 = Z at *
  have A := Lib.hid (awakeD (h.below ((Below.refl _ _).alloc (Nat.le_refl _) (.cells Z 44))))
  have G : Hid ((w.alloc (.cells Z 44)).heap[w.heap.size]? = some (.cells Z 44 (0, 0))) := heap_alloc_new _ _
  clear h
  go_enter Try.func25, Try.ntmps25
  go_wp2_with fail
  refine A.out.mono ?_
  rintro e w' ⟨rfl, rfl⟩
  go_wp2_with (refine wpList_store_row rfl 44 (.tmp 2) (.tmp 9) rfl w.heap.size Z rfl rfl 44 Z G.out IZ.out rfl ON.out ?_)
  rw [alloc_setRow]
  refine bodyPost_ret (v := .tuple #[.agg Z, .int .i64 30]) (results_cell_tmp Try.results25 _ _ w.heap.size 44 Z (0, 0) _ rfl G.out Try.underlying44 rfl IZ.out) rfl ⟨rfl, ?_⟩
  exact (Below.refl _ _).alloc (Nat.le_refl _) _
set_option maxRecDepth 100000 in
theorem setregD_ok (h : DK P w g N sb hb wv su ws rg c p false K) (hc : 0 ≤ c) (hc2 : c ≤ 1000000) (hp : p = -1 ∨ 1 ≤ p) (hp2 : p ≤ 9223372036854775807) (rg' : List Value) (hl' : rg'.length = 64) (h1' : ∀ v ∈ rg', v.oneCell' = true) :
    Calls Try.prog 29 #[.pointer (some ⟨g, 0, none⟩), .agg rg'.toArray] w fun e w' => e = .returned (.int .i64 0) ∧ DK P w' g N sb hb wv su ws rg' (c + 1) (pl p) false K ∧ Mods (fun k => k = g) w w' := by
  have hlt := h.lt
  have hb := (Below.refl w.heap.size w).alloc (Nat.le_refl _) (.cells rg'.toArray 44)
  have h1 := h.below hb
  have A := Lib.hid (awakeD h1)
  have M := Lib.hid (mayD_ok h1 hc hc2 hp hp2)
  have HB := Lib.hid (Mods.of_below (S := fun k => k = g) hb)
  have IZ : Hid ((Try.prog.info? 44).map (·.size) = some rg'.toArray.size) := info44s.trans (by simp [hl'])
  have ON : Hid (rg'.toArray.all (·.oneCell') = true) := all_oneCell_toArray h1'
  have G0 : Hid ((w.alloc (.cells rg'.toArray 44)).heap[w.heap.size]? = some (.cells rg'.toArray 44 (0, 0))) := heap_alloc_new _ _
  have LT : Hid (g < w.heap.size) := hlt
  have HL : Hid (rg'.length = 64) := hl'
  clear h h1 hb hlt hl' h1'
  go_enter Try.func29, Try.ntmps29
  go_wp2_with fail
  refine A.out.mono ?_
  rintro e w' ⟨rfl, rfl⟩
  go_wp2_with fail
  refine M.out.mono ?_
  rintro e w2 ⟨rfl, d2, m2⟩
  have D2 := Lib.hid d2
  have M2 := Lib.hid (HB.out.trans m2 (fun _ h => .inl h))
  have G2 : Hid (w2.heap[w.heap.size]? = some (.cells rg'.toArray 44 (0, 0))) := (m2.block _ (Array.getElem?_eq_some_iff.1 G0.out).1 (fun e => by have := LT.out; have e' : w.heap.size = g := e; omega)).trans G0.out
  have RG : Hid (w2.rangeAt w.heap.size 0 rg') := fun j v hv => by
    rw [cell_of_row _ _ _ _ _ _ G2.out, Nat.zero_add, List.getElem?_toArray, hv]
  have TH : Hid (w2.there g 4 rg'.toArray.size) := by
    show w2.there _ _ _
    rw [List.size_toArray, HL.out]; exact d2.there
  have FIN : Hid (DK P (w2.setCells g 4 rg') g N sb hb wv su ws rg' (c + 1) (pl p) false K) :=
    d2.resetR HL.out (row_setCells d2.row d2.len HL.out) (Mods.sets (S := fun k => k = g) g rfl rg' 4 w2)
  have MF : Hid (Mods (fun k => k = g) w (w2.setCells g 4 rg')) := M2.out.trans (Mods.sets (S := fun k => k = g) g rfl rg' 4 w2) (fun _ h => .inl h)
  clear d2 m2
  go_wp2_with (first | refine wpList_load_mid rfl 44 (.tmp 3) rfl w.heap.size 0 rfl rg' _ RG.out Try.underlying44 rfl IZ.out ?_ | refine wpList_store_mid rfl 44 (.tmp 17) (.tmp 15) rfl g 4 rg'.toArray rfl rfl TH.out IZ.out ON.out ?_)
  go_ret
  exact ⟨rfl, FIN.out, MF.out⟩
set_option maxRecDepth 100000 in
theorem regD_ok (h : DK P w g N sb hb wv su ws rg c p false K) (h1 : ∀ v ∈ rg, v.oneCell' = true) : Calls Try.prog 25 #[.pointer (some ⟨g, 0, none⟩)] w fun e w' => e = .returned (.tuple #[.agg rg.toArray, .int .i64 0]) ∧ Below w.heap.size w w' := by
  have hz := zero44
  have IZ : Hid ((Try.prog.info? 44).map (·.size) = some zer64.size) := info44s.trans (by rfl)
  generalize zer64 = Z at *
  have hh := h.below ((Below.refl _ _).alloc (Nat.le_refl _) (.cells Z 44))
  have A := Lib.hid (awakeD hh)
  have G : Hid ((w.alloc (.cells Z 44)).heap[w.heap.size]? = some (.cells Z 44 (0, 0))) := heap_alloc_new _ _
  have RA := Lib.hid hh.range
  have IR : Hid ((Try.prog.info? 44).map (·.size) = some rg.length) := info44s.trans (by rw [h.len])
  have IR2 : Hid ((Try.prog.info? 44).map (·.size) = some rg.toArray.size) := info44s.trans (by simp [h.len])
  have SZ : Hid (rg.toArray.size = Z.size) := by
    show _ = _
    have e : some Z.size = some rg.toArray.size := IZ.out.symm.trans IR2.out
    exact (Option.some.inj e).symm
  have ON : Hid (rg.toArray.all (·.oneCell') = true) := all_oneCell_toArray h1
  clear h hh
  go_enter Try.func25, Try.ntmps25
  go_wp2_with fail
  refine A.out.mono ?_
  rintro e w' ⟨rfl, rfl⟩
  go_wp2_with (first | refine wpList_load_mid rfl 44 (.tmp 13) rfl g 4 rfl rg _ RA.out Try.underlying44 rfl IR.out ?_ | refine wpList_store_row rfl 44 (.tmp 2) (.tmp 14) rfl w.heap.size rg.toArray rfl rfl 44 Z G.out IR2.out SZ.out.symm ON.out ?_)
  rw [alloc_setRow]
  refine bodyPost_ret (v := .tuple #[.agg rg.toArray, .int .i64 0]) (results_cell_tmp Try.results25 _ _ w.heap.size 44 rg.toArray (0, 0) _ rfl (heap_alloc_new _ _) Try.underlying44 rfl IR2.out) rfl ⟨rfl, ?_⟩
  exact (Below.refl _ _).alloc (Nat.le_refl _) _
end
end Go.Proofs.Ytklhnibmpdaioaa.pv
