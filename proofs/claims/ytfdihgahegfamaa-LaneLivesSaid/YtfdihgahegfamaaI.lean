/-
  Contracts of Next and New of the document's own lanes, and of Len and Drain of the program's. Condition: the lanes lie in memory as the texts before say.
-/
import Derived.Test.YtfdihgahegfamaaJ
import Derived.Test.YtfdihgahegfamaaG
import Derived.Deep.LoopGhost
namespace Go.Proofs.Ytfdihgahegfamaa
open Go.RowKit Go.Conc
/-- What the document's Next tells. -/
def DocN (w : World) (gx n size : Nat) (u : Value) (vs : Nat → Value) (R : Nat → List Int) (f : Int) (e : Ending) (w' : World) : Prop :=
  (∃ j x l, j < n ∧ (∀ i, i < j → R (lnr f n i) = []) ∧ R (lnr f n j) = x :: l ∧ DocP w gx n size u vs R (lnr f n j) l (.returned (.tuple #[.int .i64 (lnr f n j), .int .i64 x, .bool true])) e w') ∨
  ((∀ i, i < n → R (lnr f n i) = []) ∧ e = .returned (.tuple #[.int .i64 0, .int .i64 0, .bool false]) ∧ w = w')
theorem lnr_doc {f : Int} {n fr i : Nat} (h : f.tmod n = fr ∨ f.tmod n = (fr : Int) - n) (hn : 1 ≤ n) : ((fr : Int) + i) % n = ((lnr f n i : Nat) : Int) := by
  unfold lnr
  rw [Int.toNat_of_nonneg (Int.emod_nonneg _ (by omega))]
  rcases h with h | h
  · rw [h, show (fr : Int) + n + i = fr + i + n by omega, Int.add_emod_right]
  · rw [h, show (fr : Int) - n + n + i = fr + i by omega]
set_option maxRecDepth 100000 in
set_option maxHeartbeats 4000000 in
theorem docNext {w : World} {gx n size : Nat} {u : Value} {vs : Nat → Value} {R : Nat → List Int} (h : DL w gx n size u vs R) (hn : 1 ≤ n) (hn8 : n ≤ 8) (h8 : ∀ j, j < n → (R j).length ≤ 8) (f : Int) (f0 : -9223372036854775808 ≤ f) (f1 : f ≤ 9223372036854775807) :
    Calls Try.prog 76 #[.pointer (some ⟨gx, 0, none⟩), .int .i64 f] w (DocN w gx n size u vs R f) := by
  obtain ⟨tb0, tb1⟩ := tmod_bd f n hn
  have c0 := h.c0
  obtain ⟨y, c, hu, hc1, hc2⟩ := h.hq.form
  rw [hu] at c0
  have H := Lib.hid h
  have H8 := Lib.hid h8
  have hnz : ((n : Int) == 0) = false := by simp; omega
  have hnz2 : ¬ (n : Int) = 0 := by omega
  unfold maxLen at hc2
  by_cases hr0 : f.tmod n < 0
  · obtain ⟨fr, hfr⟩ : ∃ fr : Nat, f.tmod n = (fr : Int) - n := ⟨(f.tmod n + n).toNat, by omega⟩
    have HF : Hid (f.tmod n = fr ∨ f.tmod n = (fr : Int) - n) := .inr hfr
    have hfn : fr < n := by omega
    have hwr : IntKind.i64.wrap ((fr : Int) - n + n) = fr := by rw [show (fr : Int) - n + n = fr by omega]; exact IntWalk.i64_in _ (by omega)
    have hlz : (fr : Int) - n < 0 := by omega
    have hl1 : -9223372036854775808 ≤ (fr : Int) - n := by omega
    have hl2 : (fr : Int) - n ≤ 9223372036854775807 := by omega
    clear h h8 hu hr0 tb0 tb1
    go_enter Try.func76, Try.ntmps76
    go_wp2_with fail
    go_loopg [8] n (fun r vi wr => ∃ i : Nat, r + i = n ∧ vi = .int .i64 i ∧ wr = w ∧ ∀ j, j < i → R (lnr f n j) = [])
    case atStart => exact ⟨0, by omega, rfl, rfl, fun j hj => by omega⟩
    case round =>
      obtain ⟨i, hr, rfl, rfl, he⟩ := hrel
      have HE := Lib.hid he
      clear he
      by_cases hlt : i < n
      · have hkI := lnr_doc (i := i) HF.out hn
        have hkn := lnr_lt f n i hn
        obtain ⟨k, hk⟩ : ∃ k, k = lnr f n i := ⟨_, rfl⟩
        rw [← hk] at hkI hkn
        have HK := Lib.hid hk
        clear hk
        go_wp2_with fail
        cases hq : R k with
        | nil =>
          refine (docTake_no H.out k hkn hq).mono ?_
          rintro e w' ⟨rfl, rfl⟩
          have HQ := Lib.hid hq
          clear hq
          go_wp2_with fail
          go_roundg (n - (i + 1))
          case measure => omega
          case rel =>
            refine ⟨i + 1, by omega, by go_num, rfl, fun j hj => ?_⟩
            by_cases hji : j = i
            · subst hji; rw [← HK.out]; exact HQ.out
            · exact HE.out j (by omega)
        | cons x l =>
          have hl8 := H8.out k hkn
          rw [hq] at hl8
          refine (docTake H.out k hkn x l hq (by simp at hl8; omega)).mono ?_
          rintro e w2 ⟨rfl, hP⟩
          have HP := Lib.hid hP
          have HQ := Lib.hid hq
          clear hq hP hl8
          go_wp2_with fail
          go_ret3
          refine .inl ⟨i, x, l, hlt, HE.out, ?_, ?_⟩
          · rw [← HK.out]; exact HQ.out
          · rw [← HK.out]; exact ⟨by show Ending.returned (.tuple #[.int .i64 (((fr : Int) + i) % n), .int .i64 x, .bool true]) = _; rw [hkI], HP.out⟩
      · go_wp2_with fail
        go_ret3
        exact .inr ⟨fun j hj => HE.out j (by omega), rfl, rfl⟩
  · obtain ⟨fr, hfr⟩ : ∃ fr : Nat, f.tmod n = (fr : Int) := ⟨(f.tmod n).toNat, by omega⟩
    have HF : Hid (f.tmod n = fr ∨ f.tmod n = (fr : Int) - n) := .inl hfr
    have hfn : fr < n := by omega
    clear h h8 hu hr0 tb0 tb1
    go_enter Try.func76, Try.ntmps76
    go_wp2_with fail
    go_loopg [8] n (fun r vi wr => ∃ i : Nat, r + i = n ∧ vi = .int .i64 i ∧ wr = w ∧ ∀ j, j < i → R (lnr f n j) = [])
    case atStart => exact ⟨0, by omega, rfl, rfl, fun j hj => by omega⟩
    case round =>
      obtain ⟨i, hr, rfl, rfl, he⟩ := hrel
      have HE := Lib.hid he
      clear he
      by_cases hlt : i < n
      · have hkI := lnr_doc (i := i) HF.out hn
        have hkn := lnr_lt f n i hn
        obtain ⟨k, hk⟩ : ∃ k, k = lnr f n i := ⟨_, rfl⟩
        rw [← hk] at hkI hkn
        have HK := Lib.hid hk
        clear hk
        go_wp2_with fail
        cases hq : R k with
        | nil =>
          refine (docTake_no H.out k hkn hq).mono ?_
          rintro e w' ⟨rfl, rfl⟩
          have HQ := Lib.hid hq
          clear hq
          go_wp2_with fail
          go_roundg (n - (i + 1))
          case measure => omega
          case rel =>
            refine ⟨i + 1, by omega, by go_num, rfl, fun j hj => ?_⟩
            by_cases hji : j = i
            · subst hji; rw [← HK.out]; exact HQ.out
            · exact HE.out j (by omega)
        | cons x l =>
          have hl8 := H8.out k hkn
          rw [hq] at hl8
          refine (docTake H.out k hkn x l hq (by simp at hl8; omega)).mono ?_
          rintro e w2 ⟨rfl, hP⟩
          have HP := Lib.hid hP
          have HQ := Lib.hid hq
          clear hq hP hl8
          go_wp2_with fail
          go_ret3
          refine .inl ⟨i, x, l, hlt, HE.out, ?_, ?_⟩
          · rw [← HK.out]; exact HQ.out
          · rw [← HK.out]; exact ⟨by show Ending.returned (.tuple #[.int .i64 (((fr : Int) + i) % n), .int .i64 x, .bool true]) = _; rw [hkI], HP.out⟩
      · go_wp2_with fail
        go_ret3
        exact .inr ⟨fun j hj => HE.out j (by omega), rfl, rfl⟩
theorem info29 : (Try.prog.info? 29).map (fun i => (i.zero, i.size, i.bytes)) = some (some (.slice none 0 0), 1, 24) := by kernel_rfl
/-- One row more. -/
theorem docGrow {wr : World} {gx size i : Nat} {u : Value} (hh : wr.heap[gx]? = some (.cells #[u, .int .i64 size] 116 (0, 0))) (hr : Rw wr 29 1 u i (List.replicate i (.slice none 0 0))) (hi : i < 8) :
    ∃ y c w1, (Builtin.append_ #[114, 114] 114 #[u, .slice (some ⟨wr.heap.size, 0, none⟩) 1 1]).run Try.prog (wr.alloc (.cells #[.slice none 0 0] 29)) = .ok (.slice y (i + 1) c) w1 ∧ w1.cell? ⟨gx, 0, none⟩ = some u ∧ w1.frozen? ⟨gx, 0, none⟩ = false ∧
      (w1.setCell ⟨gx, 0, none⟩ (.slice y (i + 1) c)).heap[gx]? = some (.cells #[.slice y (i + 1) c, .int .i64 size] 116 (0, 0)) ∧ Rw (w1.setCell ⟨gx, 0, none⟩ (.slice y (i + 1) c)) 29 1 (.slice y (i + 1) c) (i + 1) (List.replicate (i + 1) (.slice none 0 0)) ∧
      Mods (fun k => k = gx ∨ u.ownBlock = some k) wr (w1.setCell ⟨gx, 0, none⟩ (.slice y (i + 1) c)) ∧ Anew wr u (.slice y (i + 1) c) := by
  obtain ⟨inf, hi0, hz0, hz1, hz2⟩ := info_parts info29
  have hnew := heap_alloc_new wr (.cells #[.slice none 0 0] 29)
  have hr0 : Rw (wr.alloc (.cells #[.slice none 0 0] 29)) 29 1 u i (List.replicate i (.slice none 0 0)) := hr.mods (S := fun _ => False) (Mods.alloc _ _) (fun _ _ => id)
  obtain ⟨v', w1, hrun, r1, r2, r3⟩ := hr0.push Try.underlying114 hi0 hz0 hz1 hz2 rfl (by decide) ⟨wr.heap.size, 0, none⟩ 1 1 [.slice none 0 0] rfl
    (fun j x hj => by rw [addr_add, cell_of_row _ _ _ _ _ _ hnew]; rcases j with _ | j <;> simp at hj ⊢; exact hj) (by simp [Value.oneCell']) (by unfold maxLen; omega) (by omega) (by omega)
  obtain ⟨y, c, rfl, _, _⟩ := r1.form
  have hm : Mods (fun k => u.ownBlock = some k) wr w1 := (Mods.alloc wr _).trans r2 (fun b hb => .inl hb)
  have hgu : ¬ u.ownBlock = some gx := fun e => hr.ty hh (by decide) e
  have hg1 : w1.heap[gx]? = some (.cells #[u, .int .i64 size] 116 (0, 0)) := (hm.block gx (Array.getElem?_eq_some_iff.1 hh).1 hgu).trans hh
  have ha : Anew wr u (.slice y (i + 1) c) := fun k hk => by
    rcases r3 with r3 | ⟨k', h1, h2⟩
    · rw [r3] at hk; exact .inl hk
    · rw [h1] at hk
      obtain rfl := Option.some.inj hk
      simp at h2
      exact .inr (by omega)
  have hset : Mods (fun k => k = gx) w1 (w1.setCell ⟨gx, 0, none⟩ (.slice y (i + 1) c)) := Mods.set _ ⟨gx, 0, none⟩ _ rfl
  refine ⟨y, c, w1, hrun, by rw [cell_of_row _ _ _ _ _ _ hg1]; rfl, by simp [World.frozen?, hg1], by simp [World.setCell, Array.getElem?_modify, hg1], ?_, (hm.mono (fun _ hb => .inl (.inr hb))).trans hset (fun _ hb => .inl (.inl hb)), ha⟩
  have r1' : Rw w1 29 1 (.slice y (i + 1) c) (i + 1) (List.replicate (i + 1) (.slice none 0 0)) := by rw [List.replicate_succ']; exact r1
  exact r1'.mods hset (fun k hk e => by
    subst e
    exact r1'.ty hg1 (by decide) hk)
theorem docNew_no (n s : Int) (h : n < 1 ∨ 8 < n ∨ s < 1 ∨ 8 < s) (w : World) : Calls Try.prog 41 #[.int .i64 n, .int .i64 s] w fun e w' => e = .returned (.tuple #[.pointer none, .int .i64 1]) ∧ w = w' := by
  by_cases h1 : n < 1
  · clear h
    go_enter Try.func41, Try.ntmps41
    go_wp2_with fail
    go_ret2
    exact ⟨rfl, rfl⟩
  · by_cases h2 : 8 < n
    · clear h
      go_enter Try.func41, Try.ntmps41
      go_wp2_with fail
      go_ret2
      exact ⟨rfl, rfl⟩
    · by_cases h3 : s < 1
      · clear h
        go_enter Try.func41, Try.ntmps41
        go_wp2_with fail
        go_ret2
        exact ⟨rfl, rfl⟩
      · have h4 : 8 < s := by omega
        clear h
        go_enter Try.func41, Try.ntmps41
        go_wp2_with fail
        go_ret2
        exact ⟨rfl, rfl⟩
/-- What the document's New makes. -/
def DocW (w : World) (n size : Nat) (e : Ending) (w' : World) : Prop :=
  ∃ gx u, e = .returned (.tuple #[.pointer (some ⟨gx, 0, none⟩), .int .i64 0]) ∧ DL w' gx n size u (fun _ => .slice none 0 0) (fun _ => []) ∧ Below w.heap.size w w' ∧ ∀ k, DB gx n u (fun _ => .slice none 0 0) k → w.heap.size ≤ k
set_option maxRecDepth 100000 in
set_option maxHeartbeats 2000000 in
theorem docNew (n s : Nat) (h1 : 1 ≤ n) (h2 : n ≤ 8) (h3 : 1 ≤ s) (h4 : s ≤ 8) (w : World) : Calls Try.prog 41 #[.int .i64 n, .int .i64 s] w (DocW w n s) := by
  obtain ⟨w1, hw1⟩ : ∃ w1, w1 = w.alloc (.cells #[.slice none 0 0, .int .i64 s] 116) := ⟨_, rfl⟩
  have HG : Hid (w1.heap[w.heap.size]? = some (.cells #[.slice none 0 0, .int .i64 s] 116 (0, 0))) := by show _ = _; rw [hw1]; exact heap_alloc_new _ _
  have HB : Hid (Below w.heap.size w w1) := by show Below _ _ _; rw [hw1]; exact (Below.refl _ _).alloc (Nat.le_refl _) _
  obtain ⟨gx, hgx⟩ : ∃ gx, gx = w.heap.size := ⟨_, rfl⟩
  have HX := Lib.hid hgx
  have HW := Lib.hid hw1
  clear hw1 hgx
  go_enter Try.func41, Try.ntmps41
  go_wp2_with fail
  rw [← HW.out]
  rw [← HX.out] at HG ⊢
  go_loopg [7] n (fun r vi wr => ∃ (i : Nat) (u : Value), r + i = n ∧ vi = .int .i64 i ∧ wr.heap[gx]? = some (.cells #[u, .int .i64 s] 116 (0, 0)) ∧ Rw wr 29 1 u i (List.replicate i (.slice none 0 0)) ∧ (∀ k, u.ownBlock = some k → w.heap.size ≤ k) ∧ Below w.heap.size w wr)
  case atStart => exact ⟨0, _, by omega, rfl, HG.out, Rw.nil _ _ _, fun k hk => by simp [Value.ownBlock] at hk, HB.out⟩
  case round =>
    clear HG HB HW
    obtain ⟨i, u, hr, rfl, hh, hrw, hown, hb⟩ := hrel
    by_cases hlt : i < n
    · obtain ⟨y, c, w2, k1, k2, k3, k4, k5, k6, k7⟩ := docGrow hh hrw (by omega)
      have c0 : wr.cell? ⟨gx, 0, none⟩ = some u := by rw [cell_of_row _ _ _ _ _ _ hh]; rfl
      obtain ⟨yu, cu, rfl, _, _⟩ := hrw.form
      have K1 := Lib.hid k1
      have K4 := Lib.hid k4
      have K5 := Lib.hid k5
      have KB : Hid (Below w.heap.size w (w2.setCell ⟨gx, 0, none⟩ (.slice y (i + 1) c))) := Mods.below hb k6 hb.size (fun k hk => by
        rcases hk with rfl | hk
        · rw [HX.out]; exact Nat.le_refl _
        · exact hown k hk)
      have KO : Hid (∀ k, (Value.slice y (i + 1) c).ownBlock = some k → w.heap.size ≤ k) := fun k hk => by
        rcases k7 k hk with h1 | h1
        · exact hown k h1
        · have := hb.size; omega
      clear k1 k4 k5 k6 k7 hh hrw hown hb
      go_wp2_with (at_builtin; refine wpList_appK 114 rfl (.tmp 34) (.tmp 35) rfl rfl rfl rfl K1.out ?_)
      go_roundg (n - (i + 1))
      case measure => omega
      case rel => exact ⟨i + 1, _, by omega, by go_num, K4.out, K5.out, KO.out, KB.out⟩
    · obtain rfl : i = n := by omega
      have HD : Hid (DL wr gx i s u (fun _ => .slice none 0 0) (fun _ => [])) := ⟨hh, by
        have e : (List.range i).map (fun _ => Value.slice none 0 0) = List.replicate i (.slice none 0 0) := by
          apply List.ext_getElem <;> simp
        rw [e]; exact hrw, fun j hj => Rw.nil _ _ _, fun a b ha hb hab k hk => by simp [Value.ownBlock] at hk⟩
      have HB := Lib.hid hb
      have HO := Lib.hid hown
      clear hh hrw hown hb
      go_wp2_with fail
      go_ret2
      refine ⟨gx, u, rfl, HD.out, HB.out, fun k hk => ?_⟩
      rcases hk with rfl | hk | ⟨j, hj, hk⟩
      · rw [HX.out]; exact Nat.le_refl _
      · exact HO.out k hk
      · simp [Value.ownBlock] at hk
end Go.Proofs.Ytfdihgahegfamaa
