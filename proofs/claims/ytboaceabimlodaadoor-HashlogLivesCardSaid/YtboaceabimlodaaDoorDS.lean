/-
  Contract of the document's Sum of a log. Condition: it lies in memory as a list of texts.
-/
import Derived.Test.YtboaceabimlodaaDoorDL
import Derived.Test.YtboaceabimlodaaDoorRefF
namespace Go.Proofs.YtboaceabimlodaaDoor
open Go.RowKit
/-- One text more, as the append and the store leave it. -/
theorem push_fin {U : Nat → Prop} {X Wc : World} {h : Nat} {T : List (List Int)} {v u : Value} {xs : List Value} {b : List Int} (d : DLs U X h T v xs) (hb : Byt b) (hbl : b.length ≤ 300) (hT : T.length ≤ 1000000)
    (ho : OU X.heap.size Wc u b) (hbel : Below X.heap.size X Wc) (hu1 : ∃ x l c, u = .slice x l c) :
    ∃ v' W7, (Builtin.append_ #[22, 22] 22 #[v, .slice (some ⟨Wc.heap.size, 0, none⟩) 1 1]).run Tryd.prog (Wc.alloc (.cells #[u] 23)) = .ok v' W7 ∧ (∃ x l c, v' = .slice x l c) ∧ W7.heap[h]? = some (.cells #[v] 29 (0, 0)) ∧
      DL (fun q => U q ∨ X.heap.size ≤ q ∧ q < (W7.setCell ⟨h, 0, none⟩ v').heap.size) (W7.setCell ⟨h, 0, none⟩ v') h (T ++ [b]) ∧ Mods U X (W7.setCell ⟨h, 0, none⟩ v') := by
  obtain ⟨Wb, hWb⟩ : ∃ Wb, Wb = Wc.alloc (.cells #[u] 23) := ⟨_, rfl⟩
  have hq : Wb.heap[Wc.heap.size]? = some (.cells #[u] 23 (0, 0)) := by rw [hWb]; exact heap_alloc_new Wc _
  have bcb : Below Wc.heap.size Wc Wb := by rw [hWb]; exact (Below.refl _ _).alloc (Nat.le_refl _) _
  have bxb : Below X.heap.size X Wb := hbel.trans (bcb.mono hbel.size)
  rw [← hWb]
  have vlt : ∀ j, v.ownBlock = some j → j < X.heap.size ∧ ∃ cs, X.heap[j]? = some (.cells cs 23 (0, 0)) := fun j e => by
    obtain ⟨_, ⟨rfl, _⟩ | ⟨g, cap, cur, rfl, _, hg, _⟩⟩ := d.row
    · simp [Value.ownBlock] at e
    · simp only [Value.ownBlock, Option.some.injEq] at e
      subst e
      exact ⟨blk_lt hg, cur, hg⟩
  have vh : v.ownBlock ≠ some h := fun e => by
    obtain ⟨_, cs, e1⟩ := vlt h e
    rw [d.head] at e1
    simp at e1
  have rW : Wb.ownsRow 0 23 1 v T.length xs := ownsRow_same d.row (fun j e => bxb.block j (vlt j e).1)
  obtain ⟨i, hi, hz0, hz1, hz2⟩ := info_parts info23
  obtain ⟨x, l, c, rfl⟩ := hu1
  have cq : Wb.cell? ⟨Wc.heap.size, 0, none⟩ = some (.slice x l c) := (cell_of_row _ _ 0 _ _ _ hq).trans rfl
  obtain ⟨v', W7, hr, hown, hg, _, hat⟩ := run_append_own_at (P := Tryd.prog) Wb 0 22 22 23 i _ 1 24 Tryd.underlying22 hi hz0 hz1 hz2 rfl (by decide) v T.length xs rW ⟨Wc.heap.size, 0, none⟩ 1 1 [.slice x l c] rfl (fun j u hj => by
    match j, hj with
    | 0, hj =>
      simp at hj
      subst hj
      rw [addr_add]
      exact cq) (by simp [Value.oneCell']) (by unfold maxLen; omega) (by omega) (Nat.zero_le _)
  have g7 : ∀ j, v.ownBlock ≠ some j → j < Wb.heap.size → W7.heap[j]? = Wb.heap[j]? := fun j h1 h2 => hg.block j h2 (fun e => h1 e.symm)
  have hlt : h < X.heap.size := blk_lt d.head
  have hh7 : W7.heap[h]? = some (.cells #[v] 29 (0, 0)) := by
    rw [g7 h vh (by have := bxb.size; omega), bxb.block h hlt]
    exact d.head
  obtain ⟨W8, hW8⟩ : ∃ W8, W8 = W7.setCell ⟨h, 0, none⟩ v' := ⟨_, rfl⟩
  have s8 : W8.heap.size = W7.heap.size := by rw [hW8]; simp [World.setCell]
  have g8 : ∀ j, j ≠ h → W8.heap[j]? = W7.heap[j]? := fun j hj => by rw [hW8]; exact Below.heap_setCell _ _ _ _ (fun e => hj e)
  have hh8 : W8.heap[h]? = some (.cells #[v'] 29 (0, 0)) := by
    rw [hW8]
    rw [heap_setCell_same _ _ _ _ _ _ hh7]
    simp
  refine ⟨v', W7, hr, (by
    obtain ⟨_, ⟨rfl, _⟩ | ⟨g, cap, cur, rfl, _⟩⟩ := hown
    · exact ⟨_, _, _, rfl⟩
    · exact ⟨_, _, _, rfl⟩), hh7, ?_⟩
  rw [← hW8]
  have m8 : Mods U X W8 := by
    have m1 : Mods U X Wb := Mods.of_below bxb
    have m2 : Mods U X W7 := m1.trans (T := fun j => v.ownBlock = some j) ⟨hg.os, hg.tape, hg.output, hg.size, fun j hj hs => g7 j hs hj⟩ (fun j e => .inl (d.vS j e))
    exact m2.trans (T := fun j => j = h) (by rw [hW8]; exact Mods.set W7 ⟨h, 0, none⟩ v' rfl) (fun j e => .inl (by have e' : j = h := e; rw [e']; exact d.sh))
  have sz : X.heap.size ≤ W8.heap.size := m8.size
  have cellsK : ∀ (j : Nat) (cs : Array Value), Wc.heap[j]? = some (.cells cs 5 (0, 0)) → W8.heap[j]? = Wc.heap[j]? := fun j cs e => by
    have jn : j ≠ h := fun e2 => by
      rw [e2, hbel.block h hlt, d.head] at e
      simp at e
    have jv : v.ownBlock ≠ some j := fun e2 => by
      obtain ⟨h5, cs2, h6⟩ := vlt j e2
      rw [hbel.block j h5, h6] at e
      simp at e
    rw [g8 j jn, g7 j jv (by have := bcb.size; have := blk_lt e; omega), bcb.block j (blk_lt e)]
  refine ⟨⟨v', xs ++ [.slice x l c], hh8, ?_, ?_, ?_, ?_, .inl d.sh, ?_⟩, m8⟩
  · rw [List.length_append]
    refine ownsRow_same hown (fun j e => g8 j (fun e2 => ?_))
    obtain ⟨_, ⟨rfl, _⟩ | ⟨g, cap, cur, rfl, _, hg', _⟩⟩ := hown
    · simp [Value.ownBlock] at e
    · simp only [Value.ownBlock, Option.some.injEq] at e
      subst e
      rw [e2, hh7] at hg'
      simp at hg'
  · intro j e
    rcases hat with e1 | e1
    · rw [e1] at e
      exact .inl (d.vS j e)
    · refine .inr ?_
      rw [e1] at e
      simp only [Option.some.injEq] at e
      subst e
      refine ⟨bxb.size, ?_⟩
      obtain ⟨_, ⟨rfl, _⟩ | ⟨g, cap, cur, rfl, _, e3, _⟩⟩ := hown
      · simp [Value.ownBlock] at e1
      · simp only [Value.ownBlock, Option.some.injEq] at e1
        subst e1
        rw [s8]
        exact blk_lt e3
  · intro j t hj
    by_cases hjl : j < T.length
    · rw [List.getElem?_append_left hjl] at hj
      obtain ⟨u0, e1, e2, e3⟩ := d.txt j t hj
      refine ⟨u0, by rw [List.getElem?_append_left (by have := (List.getElem?_eq_some_iff.1 e1).1; omega)]; exact e1, ?_⟩
      have keep : ∀ q, u0.ownBlock = some q → W8.heap[q]? = X.heap[q]? := fun q e => by
        obtain ⟨h4, cs, h5⟩ := e3 q e
        have := hbel.block q (blk_lt h5)
        rw [cellsK q cs (this.trans h5), this]
      exact ⟨e2.same keep, fun q e => by
        obtain ⟨h4, cs, h5⟩ := e3 q e
        exact ⟨.inl h4, cs, by rw [keep q e]; exact h5⟩⟩
    · have hxl : xs.length = T.length := by have := d.row.1; omega
      obtain ⟨p, e⟩ := List.getElem?_eq_some_iff.1 hj
      have p' : j < T.length + 1 := by simpa using p
      have hj' : j = T.length := by omega
      subst hj'
      simp at hj
      subst hj
      refine ⟨_, by rw [← hxl]; simp, ho.1.same (fun q e => ?_), fun q e => ?_⟩
      · obtain ⟨_, cs, e2⟩ := ho.2 q e
        exact cellsK q cs e2
      · obtain ⟨⟨h1, h2⟩, cs, e2⟩ := ho.2 q e
        have e3 := (cellsK q cs e2).trans e2
        exact ⟨.inr ⟨h1, blk_lt e3⟩, cs, e3⟩
  · intro q hq
    rcases hq with hq | hq
    · have := d.own q hq
      omega
    · have h3 := d.own h d.sh
      omega
  · intro t ht
    rcases List.mem_append.1 ht with ht | ht
    · exact d.byt t ht
    · rw [List.mem_singleton.1 ht]
      exact ⟨hb, hbl⟩
/-- A text summed by the document's log. -/
def SumDP (U : Nat → Prop) (w : World) (h : Nat) (T : List (List Int)) (b : List Int) (e : Ending) (w' : World) : Prop :=
  ∃ x c, e = .returned (.slice x (sha b).length c) ∧ Sees w' (.slice x (sha b).length c) (sha b) ∧ DL (fun q => U q ∨ w.heap.size ≤ q ∧ q < w'.heap.size) w' h (addT T b) ∧ Mods U w w'
theorem DL.wider {U U' : Nat → Prop} {w : World} {h : Nat} {T : List (List Int)} (d : DL U w h T) (hU : ∀ b, U b → U' b) (ho : ∀ b, U' b → 2 ≤ b ∧ b < w.heap.size) : DL U' w h T := by
  obtain ⟨v, xs, d⟩ := d
  exact ⟨v, xs, d.head, d.row, fun b e => hU b (d.vS b e), fun i t hi => by
    obtain ⟨u, e1, e2⟩ := d.txt i t hi
    exact ⟨u, e1, e2.wider hU⟩, ho, hU h d.sh, d.byt⟩
set_option maxRecDepth 100000 in
set_option maxHeartbeats 4000000 in
theorem sumDL (U : Nat → Prop) (h : Nat) (T : List (List Int)) (b : List Int) (v : Value) (w : World) (d : DL U w h T) (hvU : ∀ q, b ≠ [] → v.ownBlock = some q → ¬ U q) (hT : T.length ≤ 999999) (hv : Sees w v b) (hbl : b.length ≤ 300) :
    Calls Tryd.prog 10 #[.pointer (some ⟨h, 0, none⟩), v] w (SumDP U w h T b) := by
  have HAS := Lib.hid (hasD U h T b v w d (by omega) hv)
  have HBL : Hid (b.length ≤ 1000000) := by show _ ≤ _; omega
  have HBL3 := Lib.hid hbl
  have HVW := Lib.hid hv
  have HVU := Lib.hid hvU
  have HD0 := Lib.hid d
  have HT := Lib.hid hT
  clear d hvU hT hv hbl
  go_enter Tryd.func10, Tryd.ntmps10
  go_wp2_with fail
  refine HAS.out.mono ?_
  rintro e w1 ⟨rfl, hb1⟩
  have B1 := Lib.hid hb1
  have HD1 := Lib.hid (HD0.out.below hb1)
  have HV1 := Lib.hid (HVW.out.below hb1)
  clear hb1 HAS
  by_cases hm : b ∈ T
  · have SD := Lib.hid (sumD v b HBL.out w1 HV1.out)
    have AD : Hid (addT T b = T) := by show _ = _; unfold addT; rw [if_pos hm]
    rw [decide_eq_true hm]
    clear hm
    go_wp2_with fail
    refine SD.out.mono ?_
    rintro e w9 ⟨xr, cr, rfl, ho, hb9⟩
    have B9 := Lib.hid (B1.out.trans (hb9.mono B1.out.size))
    have HD9 := Lib.hid (HD1.out.below hb9)
    have SR := Lib.hid ho.sees
    clear ho hb9
    go_wp2_with fail
    go_ret
    exact ⟨xr, cr, rfl, SR.out, by rw [AD.out]; exact HD9.out.wider (fun q hq => .inl hq) (fun q hq => by
      rcases hq with hq | hq
      · exact HD9.out.own q hq
      · have := HD1.out.own
        obtain ⟨v0, xs0, d0⟩ := HD0.out
        have := d0.own h d0.sh
        omega), Mods.of_below B9.out⟩
  · have AD : Hid (addT T b = T ++ [b]) := by show _ = _; unfold addT; rw [if_neg hm]
    rw [decide_eq_false hm]
    obtain ⟨X, hX⟩ : ∃ X, X = w1.drew := ⟨_, rfl⟩
    have bx : Below w1.heap.size w1 X := by rw [hX]; exact (Below.refl _ _).drew
    obtain ⟨V0, xs0, dX⟩ := HD1.out.below bx
    have BX := Lib.hid (B1.out.trans (bx.mono B1.out.size))
    have HV := Lib.hid (HV1.out.below bx)
    have C0 : Hid (X.cell? ⟨h, 0, none⟩ = some V0) := (cell_of_row _ _ 0 _ _ _ dX.head).trans rfl
    have HL : Hid (h < X.heap.size) := blk_lt dX.head
    have CP := Lib.hid (copy v b (by have := HBL3.out; omega) X HV.out)
    have PF : Hid (∀ (Wc : World) (u : Value), OU X.heap.size Wc u b → Below X.heap.size X Wc → (∃ x l c, u = .slice x l c) → _) := fun Wc u => push_fin (u := u) (Wc := Wc) dX HV.out.1 HBL3.out (by have := HT.out; omega)
    have FIN : Hid (∀ W8 w9 : World, DL (fun q => U q ∨ X.heap.size ≤ q ∧ q < W8.heap.size) W8 h (T ++ [b]) → Mods U X W8 → Below W8.heap.size W8 w9 → DL (fun q => U q ∨ w.heap.size ≤ q ∧ q < w9.heap.size) w9 h (addT T b) ∧ Mods U w w9) := fun W8 w9 h1 h2 h3 => by
      have hs1 := BX.out.size
      have hs2 := h2.size
      have hs3 := h3.size
      refine ⟨?_, ((Mods.of_below BX.out).trans h2 (fun q e => .inl e)).trans (T := fun _ => False) (Mods.of_below h3) (fun q e => e.elim)⟩
      rw [AD.out]
      refine (h1.below h3).wider (fun q hq => ?_) (fun q hq => ?_)
      · rcases hq with hq | hq
        · exact .inl hq
        · exact .inr ⟨by omega, by omega⟩
      · rcases hq with hq | hq
        · have := (h1.below h3).own q (.inl hq)
          exact this
        · have := dX.own h dX.sh
          obtain ⟨v0, xs1, d0⟩ := HD0.out
          have := d0.own h d0.sh
          omega
    have HXX := Lib.hid hX
    clear hm hX bx dX
    go_wp2_with fail
    refine wp_region_held_drew (S := fun _ => True) (by kernel_rfl) trivial (fun hS => ?_)
    rw [← HXX.out]
    refine' wpAnyH_take (i := 0) ?h1x0p ?hsx0p ?hfx0p ?hrx0p ?hQx0p (Or.inl ⟨?hwx0p, ?hyx0p⟩) hS ?restx0p
    case h1x0p => (simp only [List.getElem?_toArray, List.getElem?_cons_zero]; rfl)
    case hsx0p => kernel_rfl
    case hfx0p => kernel_rfl
    case hrx0p => kernel_rfl
    case hQx0p => exact fun _ _ _ h => h
    case hwx0p => rfl
    case hyx0p =>
      intro W hW
      go_simp
      try with_reducible rfl
    simp only [Act.put, List.setIfInBounds_toArray, List.set_cons_succ, List.set_cons_zero]
    refine' wpAnyH_take (i := 1) ?h1x1p ?hsx1p ?hfx1p ?hrx1p ?hQx1p (Or.inl ⟨?hwx1p, ?hyx1p⟩) hS ?restx1p
    case h1x1p => (simp only [List.getElem?_toArray, List.getElem?_cons_succ, List.getElem?_cons_zero]; rfl)
    case hsx1p => kernel_rfl
    case hfx1p => kernel_rfl
    case hrx1p => kernel_rfl
    case hQx1p => exact fun _ _ _ h => h
    case hwx1p => rfl
    case hyx1p =>
      intro W hW
      go_simp
      try with_reducible rfl
    simp only [Act.put, List.setIfInBounds_toArray, List.set_cons_succ, List.set_cons_zero]
    refine' wpAnyH_take (i := 2) ?h1x2p ?hsx2p ?hfx2p ?hrx2p ?hQx2p (Or.inl ⟨?hwx2p, ?hyx2p⟩) hS ?restx2p
    case h1x2p => (simp only [List.getElem?_toArray, List.getElem?_cons_succ, List.getElem?_cons_zero]; rfl)
    case hsx2p => kernel_rfl
    case hfx2p => kernel_rfl
    case hrx2p => kernel_rfl
    case hQx2p => exact fun _ _ _ h => h
    case hwx2p => rfl
    case hyx2p =>
      intro W hW
      go_simp
      try with_reducible rfl
    simp only [Act.put, List.setIfInBounds_toArray, List.set_cons_succ, List.set_cons_zero]
    refine' wpAnyH_take (i := 3) ?h1x3p ?hsx3p ?hfx3p ?hrx3p ?hQx3p (Or.inl ⟨?hwx3p, ?hyx3p⟩) hS ?restx3p
    case h1x3p => (simp only [List.getElem?_toArray, List.getElem?_cons_succ, List.getElem?_cons_zero]; rfl)
    case hsx3p => kernel_rfl
    case hfx3p => kernel_rfl
    case hrx3p => kernel_rfl
    case hQx3p => exact fun _ _ _ h => h
    case hwx3p => rfl
    case hyx3p =>
      intro W hW
      go_simp
      try with_reducible rfl
    simp only [Act.put, List.setIfInBounds_toArray, List.set_cons_succ, List.set_cons_zero]
    refine' wpAnyH_take (i := 5) ?h1x5p ?hsx5p ?hfx5p ?hrx5p ?hQx5p (Or.inl ⟨?hwx5p, ?hyx5p⟩) hS ?restx5p
    case h1x5p => (simp only [List.getElem?_toArray, List.getElem?_cons_succ, List.getElem?_cons_zero]; rfl)
    case hsx5p => kernel_rfl
    case hfx5p => kernel_rfl
    case hrx5p => kernel_rfl
    case hQx5p => exact fun _ _ _ h => h
    case hwx5p => rfl
    case hyx5p =>
      intro W hW
      go_simp
      try with_reducible rfl
    simp only [Act.put, List.setIfInBounds_toArray, List.set_cons_succ, List.set_cons_zero]
    refine wpAnyH_ready (rs := [4, 6]) (by kernel_rfl) (by simp) ?_
    refine' AllReadyH.cons ?hoc4d (fun K hK => ?stc4d) (AllReadyH.cons ?hoc6d (fun K hK => ?stc6d) AllReadyH.nil)
    case hoc4d => (simp only [List.getElem?_toArray, List.getElem?_cons_succ, List.getElem?_cons_zero]; rfl)
    case hoc6d => (simp only [List.getElem?_toArray, List.getElem?_cons_succ, List.getElem?_cons_zero]; rfl)
    case stc4d =>
      have c0 := C0.out
      go_simp
      refine hK.out _ _ trivial (fun hHeld => ?_)
      clear hK K
      try simp only [Act.put, List.setIfInBounds_toArray, List.set_cons_succ, List.set_cons_zero]
      clear hS
      have hS := hHeld
      clear hHeld
      clear c0
      refine wpAnyH_ready (rs := [6]) (by kernel_rfl) (by simp) ?_
      refine' AllReadyH.cons ?hoc6a (fun K hK => ?stc6a) AllReadyH.nil
      case hoc6a => (simp only [List.getElem?_toArray, List.getElem?_cons_succ, List.getElem?_cons_zero]; rfl)
      go_simp
      refine CP.out.mono ?_
      rintro e Wc ⟨xu, cu, rfl, ho, hbel⟩
      have PFH := Lib.hid (PF.out Wc _ (ou_own ho (Nat.le_refl _)) hbel ⟨_, _, _, rfl⟩)
      have CC := Lib.hid ((hbel.cell (p := ⟨h, 0, none⟩) HL.out).trans C0.out)
      have LC := Lib.hid (Nat.lt_of_lt_of_le HL.out hbel.size)
      clear ho hbel
      go_wp2_with fail
      refine hK.out _ _ trivial (fun hHeld => ?_)
      clear hK K
      try simp only [Act.put, List.setIfInBounds_toArray, List.set_cons_succ, List.set_cons_zero]
      clear hS
      have hS := hHeld
      clear hHeld
      refine wpAnyH_ready (rs := [7]) (by kernel_rfl) (by simp) ?_
      refine' AllReadyH.cons ?hoc7a (fun K hK => ?stc7a) AllReadyH.nil
      case hoc7a => (simp only [List.getElem?_toArray, List.getElem?_cons_succ, List.getElem?_cons_zero]; rfl)
      go_simp
      refine hK.out _ _ trivial (fun hHeld => ?_)
      clear hK K
      try simp only [Act.put, List.setIfInBounds_toArray, List.set_cons_succ, List.set_cons_zero]
      clear hS
      have hS := hHeld
      clear hHeld
      obtain ⟨_, W7, hr, ⟨xv, lv, cv, rfl⟩, h7, hdl, hmd⟩ := PFH.out
      refine wpAnyH_ready (rs := [8]) (by kernel_rfl) (by simp) ?_
      refine' AllReadyH.cons ?hoc8a (fun K hK => ?stc8a) AllReadyH.nil
      case hoc8a => (simp only [List.getElem?_toArray, List.getElem?_cons_succ, List.getElem?_cons_zero]; rfl)
      refine step_appR rfl 22 (.tmp 13) (.tmp 16) rfl rfl rfl rfl hr ?_
      refine hK.out _ _ trivial (fun hHeld => ?_)
      clear hK K
      try simp only [Act.put, List.setIfInBounds_toArray, List.set_cons_succ, List.set_cons_zero]
      clear hS
      have hS := hHeld
      clear hHeld
      refine' wpAnyH_take (i := 9) ?h1x9a ?hsx9a ?hfx9a ?hrx9a ?hQx9a (Or.inl ⟨?hwx9a, ?hyx9a⟩) hS ?restx9a
      case h1x9a => (simp only [List.getElem?_toArray, List.getElem?_cons_succ, List.getElem?_cons_zero]; rfl)
      case hsx9a => kernel_rfl
      case hfx9a => kernel_rfl
      case hrx9a => kernel_rfl
      case hQx9a => exact fun _ _ _ h => h
      case hwx9a => rfl
      case hyx9a =>
        intro W hW
        go_simp
        try with_reducible rfl
      simp only [Act.put, List.setIfInBounds_toArray, List.set_cons_succ, List.set_cons_zero]
      refine' wpAnyH_take (i := 10) ?h1x10a ?hsx10a ?hfx10a ?hrx10a ?hQx10a (Or.inl ⟨?hwx10a, ?hyx10a⟩) hS ?restx10a
      case h1x10a => (simp only [List.getElem?_toArray, List.getElem?_cons_succ, List.getElem?_cons_zero]; rfl)
      case hsx10a => kernel_rfl
      case hfx10a => kernel_rfl
      case hrx10a => kernel_rfl
      case hQx10a => exact fun _ _ _ h => h
      case hwx10a => rfl
      case hyx10a =>
        intro W hW
        go_simp
        try with_reducible rfl
      simp only [Act.put, List.setIfInBounds_toArray, List.set_cons_succ, List.set_cons_zero]
      have c7 := (cell_of_row W7 h 0 _ _ _ h7).trans (show (#[V0] : Array Value)[0]? = some V0 from rfl)
      have fz := frozen_of_row W7 h 0 _ 29 h7
      refine wpAnyH_ready (rs := [11]) (by kernel_rfl) (by simp) ?_
      refine' AllReadyH.cons ?hoc11a (fun K hK => ?stc11a) AllReadyH.nil
      case hoc11a => (simp only [List.getElem?_toArray, List.getElem?_cons_succ, List.getElem?_cons_zero]; rfl)
      go_simp
      refine hK.out _ _ trivial (fun hHeld => ?_)
      clear hK K
      try simp only [Act.put]
      clear hS
      have hS := hHeld
      clear hHeld
      refine wpAnyH_done (by kernel_rfl) ?_ _
      have HD := Lib.hid hdl
      have HM := Lib.hid hmd
      have SD := Lib.hid (sumD v b HBL.out _ (HV.out.mods HM.out HVU.out))
      clear hS hdl hmd hr h7 c7 fz PFH CC LC
      go_wp2_with fail
      refine SD.out.mono ?_
      rintro e w9 ⟨xr, cr, rfl, ho, hb9⟩
      have FN := Lib.hid (FIN.out _ w9 HD.out HM.out hb9)
      have SR := Lib.hid ho.sees
      clear ho hb9
      go_wp2_with fail
      go_ret
      exact ⟨xr, cr, rfl, SR.out, FN.out.1, FN.out.2⟩
    case stc6d =>
      go_simp
      refine CP.out.mono ?_
      rintro e Wc ⟨xu, cu, rfl, ho, hbel⟩
      have PFH := Lib.hid (PF.out Wc _ (ou_own ho (Nat.le_refl _)) hbel ⟨_, _, _, rfl⟩)
      have CC := Lib.hid ((hbel.cell (p := ⟨h, 0, none⟩) HL.out).trans C0.out)
      have LC := Lib.hid (Nat.lt_of_lt_of_le HL.out hbel.size)
      clear ho hbel
      go_wp2_with fail
      refine hK.out _ _ trivial (fun hHeld => ?_)
      clear hK K
      try simp only [Act.put, List.setIfInBounds_toArray, List.set_cons_succ, List.set_cons_zero]
      clear hS
      have hS := hHeld
      clear hHeld
      refine wpAnyH_ready (rs := [4, 7]) (by kernel_rfl) (by simp) ?_
      refine' AllReadyH.cons ?hoc4e (fun K hK => ?stc4e) (AllReadyH.cons ?hoc7e (fun K hK => ?stc7e) AllReadyH.nil)
      case hoc4e => (simp only [List.getElem?_toArray, List.getElem?_cons_succ, List.getElem?_cons_zero]; rfl)
      case hoc7e => (simp only [List.getElem?_toArray, List.getElem?_cons_succ, List.getElem?_cons_zero]; rfl)
      case stc4e =>
        have c0 := CC.out
        go_simp
        refine hK.out _ _ trivial (fun hHeld => ?_)
        clear hK K
        try simp only [Act.put, List.setIfInBounds_toArray, List.set_cons_succ, List.set_cons_zero]
        clear hS
        have hS := hHeld
        clear hHeld
        clear c0
        refine wpAnyH_ready (rs := [7]) (by kernel_rfl) (by simp) ?_
        refine' AllReadyH.cons ?hoc7b (fun K hK => ?stc7b) AllReadyH.nil
        case hoc7b => (simp only [List.getElem?_toArray, List.getElem?_cons_succ, List.getElem?_cons_zero]; rfl)
        go_simp
        refine hK.out _ _ trivial (fun hHeld => ?_)
        clear hK K
        try simp only [Act.put, List.setIfInBounds_toArray, List.set_cons_succ, List.set_cons_zero]
        clear hS
        have hS := hHeld
        clear hHeld
        obtain ⟨_, W7, hr, ⟨xv, lv, cv, rfl⟩, h7, hdl, hmd⟩ := PFH.out
        refine wpAnyH_ready (rs := [8]) (by kernel_rfl) (by simp) ?_
        refine' AllReadyH.cons ?hoc8b (fun K hK => ?stc8b) AllReadyH.nil
        case hoc8b => (simp only [List.getElem?_toArray, List.getElem?_cons_succ, List.getElem?_cons_zero]; rfl)
        refine step_appR rfl 22 (.tmp 13) (.tmp 16) rfl rfl rfl rfl hr ?_
        refine hK.out _ _ trivial (fun hHeld => ?_)
        clear hK K
        try simp only [Act.put, List.setIfInBounds_toArray, List.set_cons_succ, List.set_cons_zero]
        clear hS
        have hS := hHeld
        clear hHeld
        refine' wpAnyH_take (i := 9) ?h1x9b ?hsx9b ?hfx9b ?hrx9b ?hQx9b (Or.inl ⟨?hwx9b, ?hyx9b⟩) hS ?restx9b
        case h1x9b => (simp only [List.getElem?_toArray, List.getElem?_cons_succ, List.getElem?_cons_zero]; rfl)
        case hsx9b => kernel_rfl
        case hfx9b => kernel_rfl
        case hrx9b => kernel_rfl
        case hQx9b => exact fun _ _ _ h => h
        case hwx9b => rfl
        case hyx9b =>
          intro W hW
          go_simp
          try with_reducible rfl
        simp only [Act.put, List.setIfInBounds_toArray, List.set_cons_succ, List.set_cons_zero]
        refine' wpAnyH_take (i := 10) ?h1x10b ?hsx10b ?hfx10b ?hrx10b ?hQx10b (Or.inl ⟨?hwx10b, ?hyx10b⟩) hS ?restx10b
        case h1x10b => (simp only [List.getElem?_toArray, List.getElem?_cons_succ, List.getElem?_cons_zero]; rfl)
        case hsx10b => kernel_rfl
        case hfx10b => kernel_rfl
        case hrx10b => kernel_rfl
        case hQx10b => exact fun _ _ _ h => h
        case hwx10b => rfl
        case hyx10b =>
          intro W hW
          go_simp
          try with_reducible rfl
        simp only [Act.put, List.setIfInBounds_toArray, List.set_cons_succ, List.set_cons_zero]
        have c7 := (cell_of_row W7 h 0 _ _ _ h7).trans (show (#[V0] : Array Value)[0]? = some V0 from rfl)
        have fz := frozen_of_row W7 h 0 _ 29 h7
        refine wpAnyH_ready (rs := [11]) (by kernel_rfl) (by simp) ?_
        refine' AllReadyH.cons ?hoc11b (fun K hK => ?stc11b) AllReadyH.nil
        case hoc11b => (simp only [List.getElem?_toArray, List.getElem?_cons_succ, List.getElem?_cons_zero]; rfl)
        go_simp
        refine hK.out _ _ trivial (fun hHeld => ?_)
        clear hK K
        try simp only [Act.put]
        clear hS
        have hS := hHeld
        clear hHeld
        refine wpAnyH_done (by kernel_rfl) ?_ _
        have HD := Lib.hid hdl
        have HM := Lib.hid hmd
        have SD := Lib.hid (sumD v b HBL.out _ (HV.out.mods HM.out HVU.out))
        clear hS hdl hmd hr h7 c7 fz PFH CC LC
        go_wp2_with fail
        refine SD.out.mono ?_
        rintro e w9 ⟨xr, cr, rfl, ho, hb9⟩
        have FN := Lib.hid (FIN.out _ w9 HD.out HM.out hb9)
        have SR := Lib.hid ho.sees
        clear ho hb9
        go_wp2_with fail
        go_ret
        exact ⟨xr, cr, rfl, SR.out, FN.out.1, FN.out.2⟩
      case stc7e =>
        go_simp
        refine hK.out _ _ trivial (fun hHeld => ?_)
        clear hK K
        try simp only [Act.put, List.setIfInBounds_toArray, List.set_cons_succ, List.set_cons_zero]
        clear hS
        have hS := hHeld
        clear hHeld
        refine wpAnyH_ready (rs := [4]) (by kernel_rfl) (by simp) ?_
        refine' AllReadyH.cons ?hoc4c (fun K hK => ?stc4c) AllReadyH.nil
        case hoc4c => (simp only [List.getElem?_toArray, List.getElem?_cons_succ, List.getElem?_cons_zero]; rfl)
        have c0 := (((Below.refl Wc.heap.size Wc).alloc (Nat.le_refl _) (.cells #[.slice xu b.length cu] 23)).cell (p := ⟨h, 0, none⟩) LC.out).trans CC.out
        go_simp
        refine hK.out _ _ trivial (fun hHeld => ?_)
        clear hK K
        try simp only [Act.put, List.setIfInBounds_toArray, List.set_cons_succ, List.set_cons_zero]
        clear hS
        have hS := hHeld
        clear hHeld
        clear c0
        obtain ⟨_, W7, hr, ⟨xv, lv, cv, rfl⟩, h7, hdl, hmd⟩ := PFH.out
        refine wpAnyH_ready (rs := [8]) (by kernel_rfl) (by simp) ?_
        refine' AllReadyH.cons ?hoc8c (fun K hK => ?stc8c) AllReadyH.nil
        case hoc8c => (simp only [List.getElem?_toArray, List.getElem?_cons_succ, List.getElem?_cons_zero]; rfl)
        refine step_appR rfl 22 (.tmp 13) (.tmp 16) rfl rfl rfl rfl hr ?_
        refine hK.out _ _ trivial (fun hHeld => ?_)
        clear hK K
        try simp only [Act.put, List.setIfInBounds_toArray, List.set_cons_succ, List.set_cons_zero]
        clear hS
        have hS := hHeld
        clear hHeld
        refine' wpAnyH_take (i := 9) ?h1x9c ?hsx9c ?hfx9c ?hrx9c ?hQx9c (Or.inl ⟨?hwx9c, ?hyx9c⟩) hS ?restx9c
        case h1x9c => (simp only [List.getElem?_toArray, List.getElem?_cons_succ, List.getElem?_cons_zero]; rfl)
        case hsx9c => kernel_rfl
        case hfx9c => kernel_rfl
        case hrx9c => kernel_rfl
        case hQx9c => exact fun _ _ _ h => h
        case hwx9c => rfl
        case hyx9c =>
          intro W hW
          go_simp
          try with_reducible rfl
        simp only [Act.put, List.setIfInBounds_toArray, List.set_cons_succ, List.set_cons_zero]
        refine' wpAnyH_take (i := 10) ?h1x10c ?hsx10c ?hfx10c ?hrx10c ?hQx10c (Or.inl ⟨?hwx10c, ?hyx10c⟩) hS ?restx10c
        case h1x10c => (simp only [List.getElem?_toArray, List.getElem?_cons_succ, List.getElem?_cons_zero]; rfl)
        case hsx10c => kernel_rfl
        case hfx10c => kernel_rfl
        case hrx10c => kernel_rfl
        case hQx10c => exact fun _ _ _ h => h
        case hwx10c => rfl
        case hyx10c =>
          intro W hW
          go_simp
          try with_reducible rfl
        simp only [Act.put, List.setIfInBounds_toArray, List.set_cons_succ, List.set_cons_zero]
        have c7 := (cell_of_row W7 h 0 _ _ _ h7).trans (show (#[V0] : Array Value)[0]? = some V0 from rfl)
        have fz := frozen_of_row W7 h 0 _ 29 h7
        refine wpAnyH_ready (rs := [11]) (by kernel_rfl) (by simp) ?_
        refine' AllReadyH.cons ?hoc11c (fun K hK => ?stc11c) AllReadyH.nil
        case hoc11c => (simp only [List.getElem?_toArray, List.getElem?_cons_succ, List.getElem?_cons_zero]; rfl)
        go_simp
        refine hK.out _ _ trivial (fun hHeld => ?_)
        clear hK K
        try simp only [Act.put]
        clear hS
        have hS := hHeld
        clear hHeld
        refine wpAnyH_done (by kernel_rfl) ?_ _
        have HD := Lib.hid hdl
        have HM := Lib.hid hmd
        have SD := Lib.hid (sumD v b HBL.out _ (HV.out.mods HM.out HVU.out))
        clear hS hdl hmd hr h7 c7 fz PFH CC LC
        go_wp2_with fail
        refine SD.out.mono ?_
        rintro e w9 ⟨xr, cr, rfl, ho, hb9⟩
        have FN := Lib.hid (FIN.out _ w9 HD.out HM.out hb9)
        have SR := Lib.hid ho.sees
        clear ho hb9
        go_wp2_with fail
        go_ret
        exact ⟨xr, cr, rfl, SR.out, FN.out.1, FN.out.2⟩
end Go.Proofs.YtboaceabimlodaaDoor
