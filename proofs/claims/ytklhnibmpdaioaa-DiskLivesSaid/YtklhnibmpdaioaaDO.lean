/-
  Contracts of package disk: Fail, Sure, a Read that tells an error, SetReg and Reg of a disk that is down. Condition: none.
-/
import Derived.Test.YtklhnibmpdaioaaDU
import Derived.Deep.MidRow
namespace Go.Proofs.Ytklhnibmpdaioaa
open Go.RowKit
section
variable {w w' : World} {g N sb hb : Nat} {wv : Value} {su : Nat → Option Nat} {ws : List (Nat × Nat)} {rg : List Value} {c p : Int} {d : Bool} {K : Nat}
set_option maxRecDepth 100000 in
theorem failD_ok (h : DK w g N sb hb wv su ws rg c p d K) (n : Nat) : Calls Try.prog 30 #[.pointer (some ⟨g, 0, none⟩), .int .i64 n] w (DkP w g N sb hb wv su ws rg c n d K (.int .i64 0)) := by
  have n1 := h.n1
  have n2 := h.n2
  have A := Lib.hid (sizeD h)
  have c69 := h.c69
  have f69 := h.fz 69
  have hm : Mods (fun k => k = g) w (w.setCell ⟨g, 69, none⟩ (.int .i64 n)) := Mods.set (S := fun k => k = g) w ⟨g, 69, none⟩ _ rfl
  have hD := h.reset (by rw [row_set h.row, dset_69 h.len]) hm
  have HD := Lib.hid hD
  have HM := Lib.hid hm
  clear h hm hD
  have q1 : decide ((N : Int) = 0) = false := by simp; omega
  have q2 : decide ((n : Int) < 0) = false := by simp
  go_enter Try.func30, Try.ntmps30
  go_wp2_with fail
  refine A.out.mono ?_
  rintro e w' ⟨rfl, rfl⟩
  go_wp2_with fail
  go_ret
  exact ⟨wv, rfl, HD.out, HM.out.mono (fun b hb' => .inl (.inl hb')), anew_same _ _⟩
set_option maxRecDepth 100000 in
theorem failD_neg (h : DK w g N sb hb wv su ws rg c p d K) (n : Int) (hn : n < 0) : Calls Try.prog 30 #[.pointer (some ⟨g, 0, none⟩), .int .i64 n] w fun e w' => e = .returned (.int .i64 1) ∧ w = w' := by
  have n1 := h.n1
  have n2 := h.n2
  have A := Lib.hid (sizeD h)
  clear h
  have q1 : decide ((N : Int) = 0) = false := by simp; omega
  have q2 : decide (n < 0) = true := by simp; omega
  go_enter Try.func30, Try.ntmps30
  go_wp2_with fail
  refine A.out.mono ?_
  rintro e w' ⟨rfl, rfl⟩
  go_wp2_with fail
  go_ret
  exact ⟨rfl, rfl⟩
/-- What a read tells first. -/
def rE (d : Bool) (s N : Nat) : Int := orE [if d then 30 else 0, if s < N then 0 else 31]
set_option maxRecDepth 100000 in
theorem readD_err (h : DK w g N sb hb wv su ws rg c p d K) (s : Nat) (he : rE d s N ≠ 0) : Calls Try.prog 26 #[.pointer (some ⟨g, 0, none⟩), .int .u32 s] w fun e w' => e = .returned (.tuple #[.slice none 0 0, .int .i64 (rE d s N)]) ∧ Below w.heap.size w w' := by
  have A := Lib.hid (awakeD h)
  have Hs := Lib.hid (hasD h s)
  unfold rE at he ⊢
  generalize (if d = true then (30 : Int) else 0) = a at *
  generalize (if s < N then (0 : Int) else 31) = b at *
  have O := Lib.hid (or2 a b w)
  clear h
  have q : decide (orE [a, b] = 0) = false := by simpa using he
  generalize orE [a, b] = z at *
  go_enter Try.func26, Try.ntmps26
  go_wp2_with fail
  refine A.out.mono ?_
  rintro e w' ⟨rfl, rfl⟩
  go_wp2_with fail
  refine Hs.out.mono ?_
  rintro e w' ⟨rfl, rfl⟩
  go_wp2_with fail
  refine O.out.mono ?_
  rintro e w' ⟨rfl, rfl⟩
  go_wp2_with fail
  go_ret2
  exact ⟨rfl, (Below.refl _ _).alloc (Nat.le_refl _) _⟩
set_option maxRecDepth 100000 in
theorem sureD_err (h : DK w g N sb hb wv su ws rg c p d K) (s : Nat) (hs : ¬ s < N) : Calls Try.prog 23 #[.pointer (some ⟨g, 0, none⟩), .int .u32 s] w fun e w' => e = .returned (.tuple #[.slice none 0 0, .int .i64 31]) ∧ w = w' := by
  have Hs := Lib.hid (hasD h s)
  rw [if_neg hs] at Hs
  clear h
  go_enter Try.func23, Try.ntmps23
  go_wp2_with fail
  refine Hs.out.mono ?_
  rintro e w' ⟨rfl, rfl⟩
  go_wp2_with fail
  go_ret2
  exact ⟨rfl, rfl⟩
set_option maxRecDepth 100000 in
theorem sureD_ok (h : DK w g N sb hb wv su ws rg c p d K) (s : Nat) (hs : s < N) : Calls Try.prog 23 #[.pointer (some ⟨g, 0, none⟩), .int .u32 s] w (OutP w (su s)) := by
  have n2 := h.n2
  have Hs := Lib.hid (hasD h s)
  rw [if_pos hs] at Hs
  have e1 := h.c1
  obtain ⟨⟨va, la, ra⟩, _⟩ := h.looks s (by omega)
  have FA : Hid (Calls Try.prog 58 #[va, .int .i64 512] w (OutP w (su s))) :=
    (padD ra).mono fun e w' ⟨a, b⟩ => ⟨_, a, by rw [b]; exact heap_alloc_new _ _, Nat.le_refl _, by rw [b]; exact (Below.refl _ _).alloc (Nat.le_refl _) _⟩
  clear h ra
  go_enter Try.func23, Try.ntmps23
  go_wp2_with fail
  refine Hs.out.mono ?_
  rintro e w' ⟨rfl, rfl⟩
  go_wp2_with fail
  refine FA.out.mono ?_
  rintro e w2 ⟨b, rfl, k1, k2, k3⟩
  have R := Lib.hid (And.intro k1 (And.intro k2 k3))
  clear k1 k2 k3
  go_wp2_with fail
  go_ret2
  exact ⟨b, rfl, R.out⟩
/-- The register is turned too. -/
theorem DK.resetR (h : DK w g N sb hb wv su ws rg c p d K) {rg' : List Value} (hl : rg'.length = 64) (row' : w'.heap[g]? = some (.cells (dcells N sb hb wv rg' c p d) 51 (0, 0))) (m : Mods (fun k => k = g) w w') : DK w' g N sb hb wv su ws rg' c p d K := by
  obtain ⟨n1, f1, m1, b1, s1⟩ := h.sure
  obtain ⟨n2, f2, m2, b2, s2⟩ := h.shown
  obtain ⟨vs, r, q⟩ := h.waits
  obtain ⟨k1, k2, k3, k4⟩ := h.kinds
  have kb : ∀ b cs, w.heap[b]? = some (.cells cs 5 (0, 0)) → ¬ b = g := fun b cs hb e => k1 b cs hb (.inl e)
  exact ⟨h.n1, h.n2, row', hl, ⟨n1, f1, m1.mods m (fun e => k2 e.symm), b1, s1.mods m kb⟩, ⟨n2, f2, m2.mods m (fun e => k3 e.symm), b2, s2.mods m kb⟩, ⟨vs, r.mods m (fun k hk => (k4 k hk).1), WS.mods m kb q⟩, h.ne, h.wl⟩
theorem dcells_size {N sb hb : Nat} {wv : Value} {rg : List Value} {c p : Int} {d : Bool} (h : rg.length = 64) : (dcells N sb hb wv rg c p d).size = 71 := by simp [dcells, h]
theorem dcells_rg {N sb hb : Nat} {wv : Value} {rg : List Value} {c p : Int} {d : Bool} (h : rg.length = 64) (j : Nat) (hj : j < 64) : (dcells N sb hb wv rg c p d)[4 + j]? = rg[j]? := by
  unfold dcells
  rw [List.getElem?_toArray, List.getElem?_append_right (by simp), List.getElem?_append_left (by simp [h]; omega)]
  simp
theorem row_setCells {N sb hb : Nat} {wv : Value} {rg rg' : List Value} {c p : Int} {d : Bool} (hr : w.heap[g]? = some (.cells (dcells N sb hb wv rg c p d) 51 (0, 0))) (h : rg.length = 64) (h' : rg'.length = 64) :
    (w.setCells g 4 rg').heap[g]? = some (.cells (dcells N sb hb wv rg' c p d) 51 (0, 0)) := by
  obtain ⟨cs', a1, a2, a3, a4⟩ := heap_setCells g rg' 4 w _ 51 (0, 0) hr
  have e : cs' = dcells N sb hb wv rg' c p d := by
    refine Array.ext_getElem? fun i => ?_
    by_cases hi : i < 4 ∨ 68 ≤ i
    · rw [a3 i (by omega)]
      unfold dcells
      rw [List.getElem?_toArray, List.getElem?_toArray]
      rcases hi with hi | hi
      · rw [List.getElem?_append_left (by simpa using hi), List.getElem?_append_left (by simpa using hi)]
      · rw [List.getElem?_append_right (by simp; omega), List.getElem?_append_right (by simp; omega), List.getElem?_append_right (by simp; omega), List.getElem?_append_right (by simp; omega), h, h']
    · obtain ⟨j, rfl⟩ : ∃ j, i = 4 + j := ⟨i - 4, by omega⟩
      have hj : j < rg'.length := by omega
      rw [a4 j rg'[j] (List.getElem?_eq_getElem hj) (by rw [dcells_size h]; omega), dcells_rg h' j (by omega), List.getElem?_eq_getElem hj]
  rw [a1, e]
theorem DK.range (h : DK w g N sb hb wv su ws rg c p d K) : w.rangeAt g 4 rg := fun j v hv => by
  have hj : j < rg.length := (List.getElem?_eq_some_iff.1 hv).1
  rw [cell_of_row _ _ _ _ _ _ h.row, dcells_rg h.len j (by rw [← h.len]; exact hj), hv]
theorem DK.there (h : DK w g N sb hb wv su ws rg c p d K) : w.there g 4 64 := fun j hj => by
  refine ⟨?_, h.fz _⟩
  rw [cell_of_row _ _ _ _ _ _ h.row, dcells_rg h.len j hj, List.getElem?_eq_getElem (by rw [h.len]; exact hj)]
  rfl
set_option maxRecDepth 100000 in
theorem setregD_isdown (h : DK w g N sb hb wv su ws rg c p true K) (Z : Array Value) : Calls Try.prog 29 #[.pointer (some ⟨g, 0, none⟩), .agg Z] w fun e w' => e = .returned (.int .i64 30) ∧ Below w.heap.size w w' := by
  have A := Lib.hid (awakeD (h.below ((Below.refl _ _).alloc (Nat.le_refl _) (.cells Z 44))))
  clear h
  go_enter Try.func29, Try.ntmps29
  go_wp2_with fail
  refine A.out.mono ?_
  rintro e w' ⟨rfl, rfl⟩
  go_wp2_with fail
  go_ret
  exact ⟨rfl, (Below.refl _ _).alloc (Nat.le_refl _) _⟩
set_option maxRecDepth 100000 in
theorem setregD_down (h : DK w g N sb hb wv su ws rg c 0 false K) (Z : Array Value) : Calls Try.prog 29 #[.pointer (some ⟨g, 0, none⟩), .agg Z] w (DkP w g N sb hb wv su ws rg c 0 true K (.int .i64 30)) := by
  have hl := h.lt
  have hb := (Below.refl w.heap.size w).alloc (Nat.le_refl _) (.cells Z 44)
  have h1 := h.below hb
  have A := Lib.hid (awakeD h1)
  have M := Lib.hid (mayD_no h1)
  have HB := Lib.hid (Mods.of_below (S := fun k => k = g) hb)
  clear h h1 hb
  go_enter Try.func29, Try.ntmps29
  go_wp2_with fail
  refine A.out.mono ?_
  rintro e w' ⟨rfl, rfl⟩
  go_wp2_with fail
  refine M.out.mono ?_
  rintro e w2 ⟨rfl, d2, m2⟩
  have D2 := Lib.hid d2
  have M2 := Lib.hid (HB.out.trans m2 (fun _ h => .inl h))
  clear d2 m2
  go_wp2_with fail
  go_ret
  exact ⟨wv, rfl, D2.out, M2.out.mono (fun b hb' => .inl (.inl hb')), anew_same _ _⟩
set_option maxRecDepth 100000 in
theorem regD_isdown (h : DK w g N sb hb wv su ws rg c p true K) : Calls Try.prog 25 #[.pointer (some ⟨g, 0, none⟩)] w fun e w' => e = .returned (.tuple #[.agg zer64, .int .i64 30]) ∧ Below w.heap.size w w' := by
  have hz := zero44
  have IZ : Hid ((Try.prog.info? 44).map (·.size) = some zer64.size) := info44s.trans (by rfl)
  have ON : Hid (zer64.all (·.oneCell') = true) := by show _ = _; decide +kernel
  generalize zer64 = Z at *
  have A := Lib.hid (awakeD (h.below ((Below.refl _ _).alloc (Nat.le_refl _) (.cells Z 44))))
  have G : Hid ((w.alloc (.cells Z 44)).heap[w.heap.size]? = some (.cells Z 44 (0, 0))) := heap_alloc_new _ _
  clear h
  go_enter Try.func25, Try.ntmps25
  go_wp2_with fail
  refine A.out.mono ?_
  rintro e w' ⟨rfl, rfl⟩
  go_wp2_with (refine wpList_store_row rfl 44 (.tmp 2) (.tmp 9) rfl w.heap.size Z rfl rfl 44 Z G.out IZ.out rfl ON.out ?_)
  rw [alloc_setRow]
  refine bodyPost_ret (v := .tuple #[.agg Z, .int .i64 30]) (results_cell_tmp Try.results25 _ _ w.heap.size 44 Z (0, 0) _ rfl G.out Try.underlying44 rfl IZ.out) rfl ⟨rfl, ?_⟩
  exact (Below.refl _ _).alloc (Nat.le_refl _) _
set_option maxRecDepth 100000 in
theorem setregD_ok (h : DK w g N sb hb wv su ws rg c p false K) (hc : 0 ≤ c) (hc2 : c ≤ 1000000) (hp : p = -1 ∨ 1 ≤ p) (hp2 : p ≤ 9223372036854775807) (rg' : List Value) (hl' : rg'.length = 64) (h1' : ∀ v ∈ rg', v.oneCell' = true) :
    Calls Try.prog 29 #[.pointer (some ⟨g, 0, none⟩), .agg rg'.toArray] w fun e w' => e = .returned (.int .i64 0) ∧ DK w' g N sb hb wv su ws rg' (c + 1) (pl p) false K ∧ Mods (fun k => k = g) w w' := by
  have hlt := h.lt
  have hb := (Below.refl w.heap.size w).alloc (Nat.le_refl _) (.cells rg'.toArray 44)
  have h1 := h.below hb
  have A := Lib.hid (awakeD h1)
  have M := Lib.hid (mayD_ok h1 hc hc2 hp hp2)
  have HB := Lib.hid (Mods.of_below (S := fun k => k = g) hb)
  have IZ : Hid ((Try.prog.info? 44).map (·.size) = some rg'.toArray.size) := info44s.trans (by simp [hl'])
  have ON : Hid (rg'.toArray.all (·.oneCell') = true) := all_oneCell_toArray h1'
  have G0 : Hid ((w.alloc (.cells rg'.toArray 44)).heap[w.heap.size]? = some (.cells rg'.toArray 44 (0, 0))) := heap_alloc_new _ _
  have LT : Hid (g < w.heap.size) := hlt
  have HL : Hid (rg'.length = 64) := hl'
  clear h h1 hb hlt hl' h1'
  go_enter Try.func29, Try.ntmps29
  go_wp2_with fail
  refine A.out.mono ?_
  rintro e w' ⟨rfl, rfl⟩
  go_wp2_with fail
  refine M.out.mono ?_
  rintro e w2 ⟨rfl, d2, m2⟩
  have D2 := Lib.hid d2
  have M2 := Lib.hid (HB.out.trans m2 (fun _ h => .inl h))
  have G2 : Hid (w2.heap[w.heap.size]? = some (.cells rg'.toArray 44 (0, 0))) := (m2.block _ (Array.getElem?_eq_some_iff.1 G0.out).1 (fun e => by have := LT.out; have e' : w.heap.size = g := e; omega)).trans G0.out
  have RG : Hid (w2.rangeAt w.heap.size 0 rg') := fun j v hv => by
    rw [cell_of_row _ _ _ _ _ _ G2.out, Nat.zero_add, List.getElem?_toArray, hv]
  have TH : Hid (w2.there g 4 rg'.toArray.size) := by
    show w2.there _ _ _
    rw [List.size_toArray, HL.out]; exact d2.there
  have FIN : Hid (DK (w2.setCells g 4 rg') g N sb hb wv su ws rg' (c + 1) (pl p) false K) :=
    d2.resetR HL.out (row_setCells d2.row d2.len HL.out) (Mods.sets (S := fun k => k = g) g rfl rg' 4 w2)
  have MF : Hid (Mods (fun k => k = g) w (w2.setCells g 4 rg')) := M2.out.trans (Mods.sets (S := fun k => k = g) g rfl rg' 4 w2) (fun _ h => .inl h)
  clear d2 m2
  go_wp2_with (first | refine wpList_load_mid rfl 44 (.tmp 3) rfl w.heap.size 0 rfl rg' _ RG.out Try.underlying44 rfl IZ.out ?_ | refine wpList_store_mid rfl 44 (.tmp 17) (.tmp 15) rfl g 4 rg'.toArray rfl rfl TH.out IZ.out ON.out ?_)
  go_ret
  exact ⟨rfl, FIN.out, MF.out⟩
set_option maxRecDepth 100000 in
theorem regD_ok (h : DK w g N sb hb wv su ws rg c p false K) (h1 : ∀ v ∈ rg, v.oneCell' = true) : Calls Try.prog 25 #[.pointer (some ⟨g, 0, none⟩)] w fun e w' => e = .returned (.tuple #[.agg rg.toArray, .int .i64 0]) ∧ Below w.heap.size w w' := by
  have hz := zero44
  have IZ : Hid ((Try.prog.info? 44).map (·.size) = some zer64.size) := info44s.trans (by rfl)
  generalize zer64 = Z at *
  have hh := h.below ((Below.refl _ _).alloc (Nat.le_refl _) (.cells Z 44))
  have A := Lib.hid (awakeD hh)
  have G : Hid ((w.alloc (.cells Z 44)).heap[w.heap.size]? = some (.cells Z 44 (0, 0))) := heap_alloc_new _ _
  have RA := Lib.hid hh.range
  have IR : Hid ((Try.prog.info? 44).map (·.size) = some rg.length) := info44s.trans (by rw [h.len])
  have IR2 : Hid ((Try.prog.info? 44).map (·.size) = some rg.toArray.size) := info44s.trans (by simp [h.len])
  have SZ : Hid (rg.toArray.size = Z.size) := by
    show _ = _
    have e : some Z.size = some rg.toArray.size := IZ.out.symm.trans IR2.out
    exact (Option.some.inj e).symm
  have ON : Hid (rg.toArray.all (·.oneCell') = true) := all_oneCell_toArray h1
  clear h hh
  go_enter Try.func25, Try.ntmps25
  go_wp2_with fail
  refine A.out.mono ?_
  rintro e w' ⟨rfl, rfl⟩
  go_wp2_with (first | refine wpList_load_mid rfl 44 (.tmp 13) rfl g 4 rfl rg _ RA.out Try.underlying44 rfl IR.out ?_ | refine wpList_store_row rfl 44 (.tmp 2) (.tmp 14) rfl w.heap.size rg.toArray rfl rfl 44 Z G.out IR2.out SZ.out.symm ON.out ?_)
  rw [alloc_setRow]
  refine bodyPost_ret (v := .tuple #[.agg rg.toArray, .int .i64 0]) (results_cell_tmp Try.results25 _ _ w.heap.size 44 rg.toArray (0, 0) _ rfl (heap_alloc_new _ _) Try.underlying44 rfl IR2.out) rfl ⟨rfl, ?_⟩
  exact (Below.refl _ _).alloc (Nat.le_refl _) _
end
end Go.Proofs.Ytklhnibmpdaioaa
