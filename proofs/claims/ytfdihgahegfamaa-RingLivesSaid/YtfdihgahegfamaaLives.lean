/-
  For every size and every slice of ops the law RingLives of package casematelaw09 returns true, and the arguments read afterwards as before: whatever is pushed, popped, dropped and asked, a ring tells what the document says. Condition: none.
-/
import Derived.Test.YtfdihgahegfamaaQ
import Derived.Deep.LoopGhost
import Derived.Deep.DeepCutAuto
import Derived.StillTailTactics
namespace Go.Proofs.Ytfdihgahegfamaa.ringLives
open Go.ChangeShapes Go.WideShapes Go.ChangeAt Go.RowKit Go.Deep
theorem walk_out (n : Int) (x : Option Addr) (l c : Nat) (hl : l ≤ 9223372036854775807) (hg : n < 1 ∨ 100 < n) (w : World) :
    Calls Try.prog 3 #[.int .i64 n, .slice x l c] w fun e w' => e = .returned (.bool true) ∧ Below w.heap.size w w' := by
  rcases hg with h | h
  · have h1 : ¬ (100 : Int) < n := by omega
    have h3 : ¬ (65536 : Int) < n := by omega
    go_enter Try.func3, Try.ntmps3
    go_wp2_with fail
    refine (newI_no n (by omega) w).mono ?_
    rintro e w1 ⟨rfl, rfl⟩
    go_wp2_with (go_at_call 12; refine (alive _).mono ?_; rintro e w1 ⟨rfl, hb⟩; have HB := Lib.hid hb; clear hb)
    go_ret
    exact ⟨rfl, HB.out⟩
  · by_cases h2 : n ≤ 65536
    · go_enter Try.func3, Try.ntmps3
      go_wp2_with (go_at_call 12; refine (alive _).mono ?_; rintro e w1 ⟨rfl, hb⟩; have HB := Lib.hid hb; clear hb)
      go_ret
      exact ⟨rfl, HB.out⟩
    · have h3 : (65536 : Int) < n := by omega
      have h4 : ¬ n < 1 := by omega
      go_enter Try.func3, Try.ntmps3
      go_wp2_with fail
      refine (newI_no n (by omega) w).mono ?_
      rintro e w1 ⟨rfl, rfl⟩
      go_wp2_with (go_at_call 12; refine (alive _).mono ?_; rintro e w1 ⟨rfl, hb⟩; have HB := Lib.hid hb; clear hb)
      go_ret
      exact ⟨rfl, HB.out⟩
theorem moreS {P : Program} {md : Region.Mode} {ops : Array Oper} {Q : Exit → Act → World → Prop} {S S' : World → Prop} (h : ∀ w, S' w → S w) :
    ∀ (fuel : Nat) (listed : Array Bool) (a : Act) (w : World), wpAnyH P md ops Q S' fuel listed a w → wpAnyH P md ops Q S fuel listed a w
  | 0, _, _, _, hh => hh
  | fuel + 1, _, _, _, hh => ⟨hh.1, fun i hi => wpOp_mono (fun a' w' h' => ⟨h w' h'.1, moreS h fuel _ a' w' h'.2⟩) (hh.2 i hi)⟩

set_option maxRecDepth 100000 in
set_option maxHeartbeats 8000000 in
theorem walk_in (N : Nat) (hN1 : 1 ≤ N) (hN2 : N ≤ 100) (lv : Value) (L : Nat) (f : Nat → Nat → Int) (w : World) (h : SO 2 w lv L f) :
    Calls Try.prog 3 #[.int .i64 N, lv] w fun e w' => e = .returned (.bool true) ∧ Below w.heap.size w w' := by
  obtain ⟨x, c, rfl, hx1, hx2, hx3⟩ := h
  unfold maxLen at hx2
  have X := Lib.hid hx3
  clear hx3
  go_enter Try.func3, Try.ntmps3
  go_wp2_with fail
  refine (newI N hN1 (by omega) w).mono ?_
  rintro e w1 ⟨rfl, hw1⟩
  obtain ⟨w2, hw2⟩ : ∃ w2, w2 = w1.alloc (.cells #[.int .i64 N, .slice none 0 0] 31) := ⟨_, rfl⟩
  have S0 : Hid (Two w w2 w.heap.size w1.heap.size N (.slice none 0 0) (.slice none 0 0) [] []) := by
    show Two _ _ _ _ _ _ _ _ _
    have hb1 : Below w.heap.size w w1 := by rw [hw1]; exact (Below.refl _ _).alloc (Nat.le_refl _) _
    have hra : RG 97 3 1 w1 w.heap.size N (.slice none 0 0) 0 [] := by rw [hw1]; exact RG.new w N
    rw [hw2]
    exact ⟨hra.below ((Below.refl _ _).alloc (Nat.le_refl _) _), RG.new w1 N, fun k hk => by simp [Value.ownBlock] at hk, Nat.le_refl _, hb1.size, fun k hk => by simp [Value.ownBlock] at hk, fun k hk => by simp [Value.ownBlock] at hk, hb1.alloc hb1.size _⟩
  have HW2 := Lib.hid hw2
  clear hw1 hw2
  go_wp2_with fail
  rw [← HW2.out]
  obtain ⟨g, hg⟩ : ∃ g, g = w.heap.size := ⟨_, rfl⟩
  obtain ⟨gx, hgx⟩ : ∃ g, g = w1.heap.size := ⟨_, rfl⟩
  rw [← hg, ← hgx] at S0 ⊢
  clear HW2 hgx
  have HG := Lib.hid hg
  clear hg
  go_loopg [8] (min L 200) (fun r vi wr => ∃ (i : Nat) (v u : Value) (A : List Int), r + i = min L 200 ∧ vi = .int .i64 i ∧ A.length ≤ N ∧ Two w wr g gx N v u A A)
  case atStart => exact ⟨0, _, _, [], by omega, rfl, by simp, S0.out⟩
  case round =>
    clear S0
    obtain ⟨i, v, u, A, hr, rfl, hA, hs⟩ := hrel
    have S := Lib.hid hs
    clear hs
    by_cases hlt : i < L
    · by_cases h200 : i < 200
      · obtain ⟨p0, p1, b, o, rfl, hb1, hc0⟩ := X.out i 0 hlt (by omega)
        obtain ⟨p2, p3, b', o', he, _, hc1⟩ := X.out i 1 hlt (by omega)
        simp only [Option.some.injEq, Addr.mk.injEq] at he
        obtain ⟨rfl, rfl, _⟩ := he
        rw [Nat.add_zero] at hc0
        have hd0 : wr.cell? ⟨b, o + i * 2, none⟩ = some (.int .i64 (f i 0)) := (S.out.hb.cell (p := ⟨b, o + i * 2, none⟩) hb1).trans hc0
        have hd1 : wr.cell? ⟨b, o + (i * 2 + 1), none⟩ = some (.int .i64 (f i 1)) := (S.out.hb.cell (p := ⟨b, o + (i * 2 + 1), none⟩) hb1).trans hc1
        generalize f i 0 = kd at *
        generalize f i 1 = xx at *
        have RNG : Hid (∀ W, Below w.heap.size w W → W.rangeAt b (o + i * 2) [.int .i64 kd, .int .i64 xx]) := by
          intro W hW
          have q0 : W.cell? ⟨b, o + i * 2, none⟩ = some (.int .i64 kd) := (hW.cell (p := ⟨b, o + i * 2, none⟩) hb1).trans hc0
          have q1 : W.cell? ⟨b, o + (i * 2 + 1), none⟩ = some (.int .i64 xx) := (hW.cell (p := ⟨b, o + (i * 2 + 1), none⟩) hb1).trans hc1
          intro j v hj
          rcases j with _ | _ | j
          · simp at hj; rw [Nat.add_zero, q0, hj]
          · simp at hj; rw [← hj, ← q1, Nat.add_assoc]
          · simp at hj
        clear hc0 hc1 hd0 hd1
        go_wp2_with fail
        refine wp_region_held_drew (S := fun W => Below w.heap.size w W) (by kernel_rfl) S.out.hb.drew (fun hS => ?_)
        refine' wpAnyH_take (i := 0) ?h1x0q ?hsx0q ?hfx0q ?hrx0q ?hQx0q (Or.inl ⟨?hwx0q, ?hyx0q⟩) hS ?restx0q
        case h1x0q => (simp only [List.getElem?_toArray, List.getElem?_cons_zero]; rfl)
        case hsx0q => kernel_rfl
        case hfx0q => kernel_rfl
        case hrx0q => kernel_rfl
        case hQx0q => exact fun _ _ _ h => h
        case hwx0q => rfl
        case hyx0q =>
          intro W hW
          go_simp
          try with_reducible rfl
        simp only [Act.put, List.setIfInBounds_toArray, List.set_cons_succ, List.set_cons_zero]
        refine' wpAnyH_take (i := 1) ?h1x1q ?hsx1q ?hfx1q ?hrx1q ?hQx1q (Or.inl ⟨?hwx1q, ?hyx1q⟩) hS ?restx1q
        case h1x1q => (simp only [List.getElem?_toArray, List.getElem?_cons_succ, List.getElem?_cons_zero]; rfl)
        case hsx1q => kernel_rfl
        case hfx1q => kernel_rfl
        case hrx1q => kernel_rfl
        case hQx1q => exact fun _ _ _ h => h
        case hwx1q => rfl
        case hyx1q =>
          intro W hW
          go_simp
          try with_reducible rfl
        simp only [Act.put, List.setIfInBounds_toArray, List.set_cons_succ, List.set_cons_zero]
        refine' wpAnyH_take (i := 2) ?h1x2q ?hsx2q ?hfx2q ?hrx2q ?hQx2q (Or.inl ⟨?hwx2q, ?hyx2q⟩) hS ?restx2q
        case h1x2q => (simp only [List.getElem?_toArray, List.getElem?_cons_succ, List.getElem?_cons_zero]; rfl)
        case hsx2q => kernel_rfl
        case hfx2q => kernel_rfl
        case hrx2q => kernel_rfl
        case hQx2q => exact fun _ _ _ h => h
        case hwx2q => rfl
        case hyx2q =>
          intro W hW
          go_simp
          try with_reducible rfl
        simp only [Act.put, List.setIfInBounds_toArray, List.set_cons_succ, List.set_cons_zero]
        refine' wpAnyH_take (i := 3) ?h1x3q ?hsx3q ?hfx3q ?hrx3q ?hQx3q (Or.inl ⟨?hwx3q, ?hyx3q⟩) hS ?restx3q
        case h1x3q => (simp only [List.getElem?_toArray, List.getElem?_cons_succ, List.getElem?_cons_zero]; rfl)
        case hsx3q => kernel_rfl
        case hfx3q => kernel_rfl
        case hrx3q => kernel_rfl
        case hQx3q => exact fun _ _ _ h => h
        case hwx3q => rfl
        case hyx3q =>
          intro W hW
          go_simp
          try with_reducible rfl
        simp only [Act.put, List.setIfInBounds_toArray, List.set_cons_succ, List.set_cons_zero]
        refine' wpAnyH_take (i := 4) ?h1x4q ?hsx4q ?hfx4q ?hrx4q ?hQx4q (Or.inl ⟨?hwx4q, ?hyx4q⟩) hS ?restx4q
        case h1x4q => (simp only [List.getElem?_toArray, List.getElem?_cons_succ, List.getElem?_cons_zero]; rfl)
        case hsx4q => kernel_rfl
        case hfx4q => kernel_rfl
        case hrx4q => kernel_rfl
        case hQx4q => exact fun _ _ _ h => h
        case hwx4q => rfl
        case hyx4q =>
          intro W hW
          go_simp
          try with_reducible rfl
        simp only [Act.put, List.setIfInBounds_toArray, List.set_cons_succ, List.set_cons_zero]
        refine' wpAnyH_take (i := 5) ?h1x5q ?hsx5q ?hfx5q ?hrx5q ?hQx5q (yieldsIf_load_mid ?hwx5q 34 (.tmp 57) ?hopx5q b (o + i * 2) rfl [.int .i64 kd, .int .i64 xx] _ (fun W hW => RNG.out W hW) Try.underlying34 rfl ?hix5q) hS ?restx5q
        case h1x5q => (simp only [List.getElem?_toArray, List.getElem?_cons_succ, List.getElem?_cons_zero]; rfl)
        case hopx5q => rfl
        case hsx5q => kernel_rfl
        case hfx5q => kernel_rfl
        case hrx5q => kernel_rfl
        case hQx5q => exact fun _ _ _ h => h
        case hwx5q => rfl
        case hix5q => kernel_rfl
        simp only [Act.put, List.setIfInBounds_toArray, List.set_cons_succ, List.set_cons_zero]
        refine wpAnyH_ready (rs := [6]) (by kernel_rfl) (by simp) ?_
        refine' AllReadyH.cons ?hoc6q (fun K hK => ?stc6q) AllReadyH.nil
        case hoc6q => (simp only [List.getElem?_toArray, List.getElem?_cons_succ, List.getElem?_cons_zero]; rfl)
        go_simp
        refine (oneC (S.out.drewN 1) hA (by omega) kd xx p2 p3).mono ?_
        rintro e w5 ⟨v5, u5, A5, rfl, ht5, hA5⟩
        go_wp2_with fail
        refine hK.out _ _ ht5.hb (fun hHeld => ?_)
        clear hK K
        try simp only [Act.put, List.setIfInBounds_toArray, List.set_cons_succ, List.set_cons_zero]
        refine moreS (S' := fun W => Two w W g gx N v5 u5 A5 A5) (fun W hW => hW.hb) _ _ _ _ ?_
        clear hS hHeld
        have hS := ht5
        have TT := Lib.hid ht5
        obtain ⟨ux5, uc5, rfl, _, _⟩ := ht5.rb.2.form
        clear ht5
        refine' wpAnyH_take (i := 7) ?h1x7q ?hsx7q ?hfx7q ?hrx7q ?hQx7q (Or.inl ⟨?hwx7q, ?hyx7q⟩) hS ?restx7q
        case h1x7q => (simp only [List.getElem?_toArray, List.getElem?_cons_succ, List.getElem?_cons_zero]; rfl)
        case hsx7q => kernel_rfl
        case hfx7q => kernel_rfl
        case hrx7q => kernel_rfl
        case hQx7q => exact fun _ _ _ h => h
        case hwx7q => rfl
        case hyx7q =>
          intro W hW
          go_simp
          try with_reducible rfl
        simp only [Act.put, List.setIfInBounds_toArray, List.set_cons_succ, List.set_cons_zero]
        refine' wpAnyH_take (i := 8) ?h1x8q ?hsx8q ?hfx8q ?hrx8q ?hQx8q (Or.inl ⟨?hwx8q, ?hyx8q⟩) hS ?restx8q
        case h1x8q => (simp only [List.getElem?_toArray, List.getElem?_cons_succ, List.getElem?_cons_zero]; rfl)
        case hsx8q => kernel_rfl
        case hfx8q => kernel_rfl
        case hrx8q => kernel_rfl
        case hQx8q => exact fun _ _ _ h => h
        case hwx8q => rfl
        case hyx8q =>
          intro W hW
          go_simp
          try with_reducible rfl
        simp only [Act.put, List.setIfInBounds_toArray, List.set_cons_succ, List.set_cons_zero]
        refine' wpAnyH_take (i := 9) ?h1x9q ?hsx9q ?hfx9q ?hrx9q ?hQx9q (Or.inl ⟨?hwx9q, ?hyx9q⟩) hS ?restx9q
        case h1x9q => (simp only [List.getElem?_toArray, List.getElem?_cons_succ, List.getElem?_cons_zero]; rfl)
        case hsx9q => kernel_rfl
        case hfx9q => kernel_rfl
        case hrx9q => kernel_rfl
        case hQx9q => exact fun _ _ _ h => h
        case hwx9q => rfl
        case hyx9q =>
          intro W hW
          go_simp
          try with_reducible rfl
        simp only [Act.put, List.setIfInBounds_toArray, List.set_cons_succ, List.set_cons_zero]
        refine' wpAnyH_take (i := 11) ?h1x11q ?hsx11q ?hfx11q ?hrx11q ?hQx11q (Or.inl ⟨?hwx11q, ?hyx11q⟩) hS ?restx11q
        case h1x11q => (simp only [List.getElem?_toArray, List.getElem?_cons_succ, List.getElem?_cons_zero]; rfl)
        case hsx11q => kernel_rfl
        case hfx11q => kernel_rfl
        case hrx11q => kernel_rfl
        case hQx11q => exact fun _ _ _ h => h
        case hwx11q => rfl
        case hyx11q =>
          intro W hW
          go_simp
          try with_reducible rfl
        simp only [Act.put, List.setIfInBounds_toArray, List.set_cons_succ, List.set_cons_zero]
        refine' wpAnyH_take (i := 12) ?h1x12q ?hsx12q ?hfx12q ?hrx12q ?hQx12q (Or.inl ⟨?hwx12q, ?hyx12q⟩) hS ?restx12q
        case h1x12q => (simp only [List.getElem?_toArray, List.getElem?_cons_succ, List.getElem?_cons_zero]; rfl)
        case hsx12q => kernel_rfl
        case hfx12q => kernel_rfl
        case hrx12q => kernel_rfl
        case hQx12q => exact fun _ _ _ h => h
        case hwx12q => rfl
        case hyx12q =>
          intro W hW
          go_simp
          try with_reducible rfl
        simp only [Act.put, List.setIfInBounds_toArray, List.set_cons_succ, List.set_cons_zero]
        refine' wpAnyH_take (i := 13) ?h1x13q ?hsx13q ?hfx13q ?hrx13q ?hQx13q (Or.inl ⟨?hwx13q, ?hyx13q⟩) hS ?restx13q
        case h1x13q => (simp only [List.getElem?_toArray, List.getElem?_cons_succ, List.getElem?_cons_zero]; rfl)
        case hsx13q => kernel_rfl
        case hfx13q => kernel_rfl
        case hrx13q => kernel_rfl
        case hQx13q => exact fun _ _ _ h => h
        case hwx13q => rfl
        case hyx13q =>
          intro W hW
          go_simp
          try with_reducible rfl
        simp only [Act.put, List.setIfInBounds_toArray, List.set_cons_succ, List.set_cons_zero]
        refine' wpAnyH_take (i := 14) ?h1x14q ?hsx14q ?hfx14q ?hrx14q ?hQx14q (Or.inl ⟨?hwx14q, ?hyx14q⟩) hS ?restx14q
        case h1x14q => (simp only [List.getElem?_toArray, List.getElem?_cons_succ, List.getElem?_cons_zero]; rfl)
        case hsx14q => kernel_rfl
        case hfx14q => kernel_rfl
        case hrx14q => kernel_rfl
        case hQx14q => exact fun _ _ _ h => h
        case hwx14q => rfl
        case hyx14q =>
          intro W hW
          have c1 := hW.rb.c1
          go_simp
          try with_reducible rfl
        simp only [Act.put, List.setIfInBounds_toArray, List.set_cons_succ, List.set_cons_zero]
        refine' wpAnyH_take (i := 15) ?h1x15q ?hsx15q ?hfx15q ?hrx15q ?hQx15q (Or.inl ⟨?hwx15q, ?hyx15q⟩) hS ?restx15q
        case h1x15q => (simp only [List.getElem?_toArray, List.getElem?_cons_succ, List.getElem?_cons_zero]; rfl)
        case hsx15q => kernel_rfl
        case hfx15q => kernel_rfl
        case hrx15q => kernel_rfl
        case hQx15q => exact fun _ _ _ h => h
        case hwx15q => rfl
        case hyx15q =>
          intro W hW
          go_simp
          try with_reducible rfl
        simp only [Act.put, List.setIfInBounds_toArray, List.set_cons_succ, List.set_cons_zero]
        refine wpAnyH_ready (rs := [10]) (by kernel_rfl) (by simp) ?_
        refine' AllReadyH.cons ?hoc10q (fun K hK => ?stc10q) AllReadyH.nil
        case hoc10q => (simp only [List.getElem?_toArray, List.getElem?_cons_succ, List.getElem?_cons_zero]; rfl)
        go_simp
        refine (lenI hS.ra).mono ?_
        rintro e w6 ⟨rfl, rfl⟩
        go_wp2_with fail
        refine hK.out _ _ hS (fun hHeld => ?_)
        clear hK K hHeld
        try simp only [Act.put, List.setIfInBounds_toArray, List.set_cons_succ, List.set_cons_zero]
        refine' wpAnyH_take (i := 16) ?h1x16q ?hsx16q ?hfx16q ?hrx16q ?hQx16q (Or.inl ⟨?hwx16q, ?hyx16q⟩) hS ?restx16q
        case h1x16q => (simp only [List.getElem?_toArray, List.getElem?_cons_succ, List.getElem?_cons_zero]; rfl)
        case hsx16q => kernel_rfl
        case hfx16q => kernel_rfl
        case hrx16q => kernel_rfl
        case hQx16q => exact fun _ _ _ h => h
        case hwx16q => rfl
        case hyx16q =>
          intro W hW
          go_simp
          try with_reducible rfl
        simp only [Act.put, List.setIfInBounds_toArray, List.set_cons_succ, List.set_cons_zero]
        refine' wpAnyH_take (i := 17) ?h1x17q ?hsx17q ?hfx17q ?hrx17q ?hQx17q (Or.inl ⟨?hwx17q, ?hyx17q⟩) hS ?restx17q
        case h1x17q => (simp only [List.getElem?_toArray, List.getElem?_cons_succ, List.getElem?_cons_zero]; rfl)
        case hsx17q => kernel_rfl
        case hfx17q => kernel_rfl
        case hrx17q => kernel_rfl
        case hQx17q => exact fun _ _ _ h => h
        case hwx17q => rfl
        case hyx17q =>
          intro W hW
          go_simp
          try with_reducible rfl
        simp only [Act.put, List.setIfInBounds_toArray, List.set_cons_succ, List.set_cons_zero]
        refine' wpAnyH_take (i := 18) ?h1x18q ?hsx18q ?hfx18q ?hrx18q ?hQx18q (Or.inl ⟨?hwx18q, ?hyx18q⟩) hS ?restx18q
        case h1x18q => (simp only [List.getElem?_toArray, List.getElem?_cons_succ, List.getElem?_cons_zero]; rfl)
        case hsx18q => kernel_rfl
        case hfx18q => kernel_rfl
        case hrx18q => kernel_rfl
        case hQx18q => exact fun _ _ _ h => h
        case hwx18q => rfl
        case hyx18q =>
          intro W hW
          go_simp
          try with_reducible rfl
        simp only [Act.put, List.setIfInBounds_toArray, List.set_cons_succ, List.set_cons_zero]
        refine' wpAnyH_take (i := 19) ?h1x19q ?hsx19q ?hfx19q ?hrx19q ?hQx19q (Or.inl ⟨?hwx19q, ?hyx19q⟩) hS ?restx19q
        case h1x19q => (simp only [List.getElem?_toArray, List.getElem?_cons_succ, List.getElem?_cons_zero]; rfl)
        case hsx19q => kernel_rfl
        case hfx19q => kernel_rfl
        case hrx19q => kernel_rfl
        case hQx19q => exact fun _ _ _ h => h
        case hwx19q => rfl
        case hyx19q =>
          intro W hW
          go_simp
          try with_reducible rfl
        simp only [Act.put, List.setIfInBounds_toArray, List.set_cons_succ, List.set_cons_zero]
        refine' wpAnyH_take (i := 21) ?h1x21q ?hsx21q ?hfx21q ?hrx21q ?hQx21q (Or.inl ⟨?hwx21q, ?hyx21q⟩) hS ?restx21q
        case h1x21q => (simp only [List.getElem?_toArray, List.getElem?_cons_succ, List.getElem?_cons_zero]; rfl)
        case hsx21q => kernel_rfl
        case hfx21q => kernel_rfl
        case hrx21q => kernel_rfl
        case hQx21q => exact fun _ _ _ h => h
        case hwx21q => rfl
        case hyx21q =>
          intro W hW
          go_simp
          try with_reducible rfl
        simp only [Act.put, List.setIfInBounds_toArray, List.set_cons_succ, List.set_cons_zero]
        refine wpAnyH_ready (rs := [20]) (by kernel_rfl) (by simp) ?_
        refine' AllReadyH.cons ?hoc20q (fun K hK => ?stc20q) AllReadyH.nil
        case hoc20q => (simp only [List.getElem?_toArray, List.getElem?_cons_succ, List.getElem?_cons_zero]; rfl)
        go_simp
        refine (sizeI hS.ra).mono ?_
        rintro e w6 ⟨rfl, rfl⟩
        go_wp2_with fail
        refine hK.out _ _ hS (fun hHeld => ?_)
        clear hK K hHeld
        try simp only [Act.put, List.setIfInBounds_toArray, List.set_cons_succ, List.set_cons_zero]
        refine' wpAnyH_take (i := 22) ?h1x22q ?hsx22q ?hfx22q ?hrx22q ?hQx22q (Or.inl ⟨?hwx22q, ?hyx22q⟩) hS ?restx22q
        case h1x22q => (simp only [List.getElem?_toArray, List.getElem?_cons_succ, List.getElem?_cons_zero]; rfl)
        case hsx22q => kernel_rfl
        case hfx22q => kernel_rfl
        case hrx22q => kernel_rfl
        case hQx22q => exact fun _ _ _ h => h
        case hwx22q => rfl
        case hyx22q =>
          intro W hW
          go_simp
          try with_reducible rfl
        simp only [Act.put, List.setIfInBounds_toArray, List.set_cons_succ, List.set_cons_zero]
        refine' wpAnyH_take (i := 23) ?h1x23q ?hsx23q ?hfx23q ?hrx23q ?hQx23q (Or.inl ⟨?hwx23q, ?hyx23q⟩) hS ?restx23q
        case h1x23q => (simp only [List.getElem?_toArray, List.getElem?_cons_succ, List.getElem?_cons_zero]; rfl)
        case hsx23q => kernel_rfl
        case hfx23q => kernel_rfl
        case hrx23q => kernel_rfl
        case hQx23q => exact fun _ _ _ h => h
        case hwx23q => rfl
        case hyx23q =>
          intro W hW
          go_simp
          try with_reducible rfl
        simp only [Act.put, List.setIfInBounds_toArray, List.set_cons_succ, List.set_cons_zero]
        refine wpAnyH_done (by kernel_rfl) ?_ _
        go_wp2_with fail
        go_roundg (min L 200 - (i + 1))
        case measure => omega
        case rel => exact ⟨i + 1, _, _, A5, by omega, by go_num, hA5, TT.out⟩
      · have HB7 := Lib.hid S.out.hb
        clear S
        go_wp2_with (go_at_call 12; refine (alive _).mono ?_; rintro e w8 ⟨rfl, hb⟩; have HB := Lib.hid (HB7.out.trans (hb.mono HB7.out.size)); clear hb)
        go_ret
        exact ⟨rfl, HB.out⟩
    · have HB7 := Lib.hid S.out.hb
      clear S
      go_wp2_with (go_at_call 12; refine (alive _).mono ?_; rintro e w8 ⟨rfl, hb⟩; have HB := Lib.hid (HB7.out.trans (hb.mono HB7.out.size)); clear hb)
      go_ret
      exact ⟨rfl, HB.out⟩

theorem walk (n : Int) (lv : Value) (L : Nat) (f : Nat → Nat → Int) (w : World) (h : SO 2 w lv L f) :
    Calls Try.prog 3 #[.int .i64 n, lv] w fun e w' => e = .returned (.bool true) ∧ Below w.heap.size w w' := by
  by_cases hg : n < 1 ∨ 100 < n
  · obtain ⟨x, c, rfl, hx1, hx2, hx3⟩ := h
    unfold maxLen at hx2
    exact walk_out n x _ c (by omega) hg w
  · obtain ⟨N, rfl⟩ : ∃ N : Nat, n = N := ⟨n.toNat, by omega⟩
    exact walk_in N (by omega) (by omega) lv L f w h

set_option maxRecDepth 100000 in
theorem open_ops {H : Type} {enc : TypeId × Value → H} {w : World} {r : Reach} {b0 base : Nat} {v : Value} {d : DataW H} {ps : List MemPlace}
    (hval : Value.okWide Try.prog w r b0 22 v) (hd : DataW.Trod enc Try.prog w base (fun _ => true) true 22 v d ps) : ∃ L f, SO 2 w v L f :=
  open_so (t := 22) Try.underlying22 Try.underlying34 (by kernel_rfl) (by kernel_rfl) (fun j f hj => by
    rcases j with _ | _ | j
    · simp at hj; rw [← hj]
    · simp at hj; rw [← hj]
    · simp at hj) (by decide) hval hd

set_option maxRecDepth 100000 in
theorem lifted (os : Os) (started : os.Started) (H : Type) (enc : TypeId × Value → H) :
    ReturnsInHanded {} Try.checked os 3 .any (Rows.ringLivesSpec.pre6 enc Try.prog Try.f3 Rows.ringLivesRow.domain false) (Rows.ringLivesSpec.post enc Try.prog Try.f3 false true false false) := by
  refine returnsInHanded_of_change (C := Try.checked) own started (by kernel_rfl) Try.func3
    (ChangeSpec.witness6 (enc := enc) (C := Try.checked) false ⟨#[], #[.int .i64 0, .slice none 0 0], []⟩ 8 (by kernel_rfl) (by kernel_rfl) (by kernel_rfl) (by kernel_rfl)) ?_
  intro W base args ds gs before hval0 hW hcnd _
  have hval : ∀ (j : Nat) t v, Try.f3.params[j]? = some t → args[j]? = some v → Value.okWide Try.prog W .any base t v := hval0
  have hW' := hW
  obtain ⟨p, q, hA0, hV, rfl, hfz, hnd⟩ := hW
  have hA : DataW.TrodAll enc Try.prog W 0 (fun _ => true) true Try.f3.params.toList args.toList ds p := hA0
  rw [Try.params3] at hA hval
  obtain ⟨v0, vs0, d0, ds0, p0, q0, hargs, rfl, rfl, h0, r0⟩ := trodAll_cons hA
  obtain ⟨v1, vs1, d1, ds1, p1, q1, rfl, rfl, rfl, h1, r1⟩ := trodAll_cons r0
  obtain ⟨rfl, rfl, rfl⟩ := trodAll_nil r1
  obtain rfl : args = #[v0, v1] := by cases args; simp_all
  obtain ⟨rfl, rfl⟩ := trodVars_none hV
  obtain ⟨a0, rfl, rfl, rfl, w0⟩ := open_int Try.underlying3 (hval 0 3 v0 rfl rfl) h0
  have b0 := bounds_i64 w0
  obtain ⟨L1, f1, s1⟩ := open_ops (hval 1 22 v1 rfl rfl) h1
  refine (walk a0 v1 L1 f1 W s1).mono fun e W' ⟨he, hb⟩ => ?_
  subst he
  exact ⟨_, rfl, law_post hW' rfl rfl rfl (by kernel_rfl) hb⟩

/-- The statement. -/
theorem proved : Rows.RingLivesSaid :=
  OpenClaim.holds_of_wide 3 Try.f3 rfl rfl rfl rfl rfl rfl rfl ⟨rfl, rfl, rfl, rfl, rfl⟩ rfl rfl rfl rfl rfl (by kernel_rfl) Try.func3 (by kernel_rfl)
    (of_decide_eq_true (by kernel_rfl)) (by unfold Func.isWrapper; first | (rw [if_pos (by decide +kernel)]; kernel_rfl) | (rw [if_neg (by decide +kernel)]; exact ⟨rfl, rfl⟩))
    (fun os started H enc _ => lifted os started H enc)
#print axioms proved
end Go.Proofs.Ytfdihgahegfamaa.ringLives
