/-
  The contract of reply.Encode. Condition: the value reads as a reply, with data of at most 5000 bytes.
-/
import Derived.Test.YtabopcfhonkecaaRpC
namespace Go.Proofs.Ytabopcfhonkecaa
open Go.RowKit
def encL (p : Ry) : List Int := be 2 p.e ++ (be 4 p.n ++ p.d)
def encE (p : Ry) : Int := if mayB p = true then 0 else 3
def encV (p : Ry) : List Int := if mayB p = true then encL p else []
def EncP (w : World) (p : Ry) (e : Ending) (w' : World) : Prop := ∃ x cap, e = .returned (.tuple #[.slice x (encV p).length cap, .int .i64 (encE p)]) ∧ Sees w' (.slice x (encV p).length cap) (encV p) ∧ Below w.heap.size w w'
theorem may_bd {p : Ry} (h : mayB p = true) : 0 ≤ p.e ∧ p.e ≤ 65535 ∧ 0 ≤ p.n ∧ p.n ≤ 2147483647 ∧ p.d.length ≤ 4096 := by
  unfold mayB at h
  simpa using h
theorem enc_no {w : World} {p : Ry} (h : mayB p = false) : Hid (∀ W, Below w.heap.size w W → EncP w p (.returned (.tuple #[.slice none 0 0, .int .i64 3])) W) := fun W hb => by
  unfold EncP encE encV
  rw [h]
  exact ⟨none, 0, rfl, sees_nil _, hb⟩
theorem enc_yes {w : World} {p : Ry} (h : mayB p = true) : Hid (∀ W x cap, Below w.heap.size w W → Sees W (.slice x (encL p).length cap) (encL p) → EncP w p (.returned (.tuple #[.slice x (encL p).length cap, .int .i64 0])) W) := fun W x cap hb hs => by
  unfold EncP encE encV
  rw [if_pos h, if_pos h]
  exact ⟨x, cap, rfl, hs, hb⟩
set_option maxRecDepth 100000 in
set_option maxHeartbeats 4000000 in
theorem encodeC {p : Ry} (h5 : p.d.length ≤ 5000) (dv : Value) (w : World) (hd : Sees w dv p.d) : Calls Try.prog 8 #[.agg (rc p dv).toArray] w (EncP w p) := by
  have MC : Hid (∀ W, Below w.heap.size w W → Calls Try.prog 19 #[.agg (rc p dv).toArray] W fun e w' => e = .returned (.bool (mayB p)) ∧ Below W.heap.size W w') := fun W h => mayC dv W (hd.below h)
  have ic := Lib.hid (i25 p dv)
  obtain ⟨x, cp, rfl, h63⟩ := hd.form
  obtain ⟨C, hC⟩ : ∃ C, C = (rc p (.slice x p.d.length cp)).toArray := ⟨_, rfl⟩
  rw [← hC] at MC ic ⊢
  obtain ⟨w1, hw1⟩ : ∃ w1, w1 = w.alloc (.cells C 25) := ⟨_, rfl⟩
  have b1 : Below w.heap.size w w1 := by rw [hw1]; exact (Below.refl _ _).alloc (Nat.le_refl _) _
  have g1 : w1.heap[w.heap.size]? = some (.cells C 25 (0, 0)) := by rw [hw1]; exact heap_alloc_new w _
  have CE : Hid (∀ W : World, W.heap[w.heap.size]? = some (.cells C 25 (0, 0)) → W.cell? ⟨w.heap.size, 0, none⟩ = some (.int .i64 p.e) ∧ W.cell? ⟨w.heap.size, 1, none⟩ = some (.int .i64 p.n) ∧ W.cell? ⟨w.heap.size, 2, none⟩ = some (.slice x p.d.length cp)) := fun W h => row_rc (by rw [hC] at h; exact h)
  have HW1 := Lib.hid hw1
  have B1 := Lib.hid b1
  have G1 := Lib.hid g1
  cases hr : mayB p with
  | false =>
    rw [hr] at MC
    have NO := enc_no (w := w) hr
    clear hw1 b1 g1 hd hC CE hr
    generalize EncP w p = PP at NO ⊢
    go_enter Try.func8, Try.ntmps8
    go_wp2_with (first | rw [← HW1.out] | refine wpList_load_row rfl 25 (.tmp 1) rfl w.heap.size rfl 25 C (0, 0) _ G1.out Try.underlying25 rfl ic.out ?_)
    refine (MC.out _ B1.out).mono ?_
    rintro e w2 ⟨rfl, hb⟩
    have B2 := Lib.hid (B1.out.trans (hb.mono B1.out.size))
    clear hb
    go_wp2
    exact NO.out _ B2.out
  | true =>
    rw [hr] at MC
    obtain ⟨e0, e1, n0, n1, l1⟩ := may_bd hr
    have YES := enc_yes (w := w) hr
    have P2 : Hid (∀ W, Calls Try.prog 21 #[.int .u16 p.e] W (NewP W 2 (be 2 p.e))) := fun W => putb16 _ e0 e1 W
    have P4 : Hid (∀ W, Calls Try.prog 22 #[.int .u32 p.n] W (NewP W 4 (be 4 p.n))) := fun W => putb32 _ n0 (by omega) W
    have CN : Hid (∀ (W : World) (g q1 q2 : Nat), W.heap[g]? = some (.cells #[.slice (some ⟨q1, 0, none⟩) 2 2, .slice (some ⟨q2, 0, none⟩) 4 4, .slice x p.d.length cp] 23 (0, 0)) → Sees W (.slice (some ⟨q1, 0, none⟩) 2 2) (be 2 p.e) → Sees W (.slice (some ⟨q2, 0, none⟩) 4 4) (be 4 p.n) → Below w.heap.size w W → Calls Try.prog 20 #[.slice (some ⟨g, 0, none⟩) 3 3] W (OwnP W (encL p))) := fun W g q1 q2 hg h1 h2 hb => by
      have h := concB [(.slice (some ⟨q1, 0, none⟩) 2 2, be 2 p.e), (.slice (some ⟨q2, 0, none⟩) 4 4, be 4 p.n), (.slice x p.d.length cp, p.d)] _ g W hg rfl (fun z hz => by
        simp only [List.mem_cons, List.not_mem_nil, or_false] at hz
        rcases hz with rfl | rfl | rfl
        · exact h1
        · exact h2
        · exact hd.below hb) (by simp only [List.flatMap_cons, List.flatMap_nil, List.length_append, be_len, List.length_nil]; omega) (by show 3 ≤ 10; decide)
      simp only [List.flatMap_cons, List.flatMap_nil, List.append_nil] at h
      exact h
    have WU1 : Hid (IntKind.u16.wrap p.e = p.e) := by show p.e % 65536 = p.e; omega
    have WU2 : Hid (IntKind.u32.wrap p.n = p.n) := by show p.n % 4294967296 = p.n; omega
    clear hw1 b1 g1 hd hC hr h5 l1 e0 e1 n0 n1
    generalize EncP w p = PP at YES ⊢
    generalize encL p = L at YES CN
    generalize be 2 p.e = b2 at P2 CN
    generalize be 4 p.n = b4 at P4 CN
    generalize p.d.length = l at *
    generalize p.e = pe at *
    generalize p.n = pn at *
    go_enter Try.func8, Try.ntmps8
    go_wp2_with (first | rw [← HW1.out] | refine wpList_load_row rfl 25 (.tmp 1) rfl w.heap.size rfl 25 C (0, 0) _ G1.out Try.underlying25 rfl ic.out ?_)
    refine (MC.out _ B1.out).mono ?_
    rintro e w2 ⟨rfl, hb⟩
    have B2 := Lib.hid (B1.out.trans (hb.mono B1.out.size))
    have G2 := Lib.hid ((hb.block _ (blk_lt G1.out)).trans G1.out)
    clear hb G1 B1
    go_wp2_with fail
    refine wp_region_held_drew (S := fun W => Below w.heap.size w W ∧ W.heap[w.heap.size]? = some (.cells C 25 (0, 0))) (by kernel_rfl) (⟨B2.out.drew, G2.out⟩) (fun hS => ?_)
    have hb0 : Below w2.heap.size w2 w2.drew := (Below.refl _ _).drew
    clear hb0 
    generalize w2.drew = Wrs at hS  ⊢
    refine' wpAnyH_take (i := 0) ?h1x0r ?hsx0r ?hfx0r ?hrx0r ?hQx0r (Or.inl ⟨?hwx0r, ?hyx0r⟩) hS ?restx0r
    case h1x0r => (simp only [List.getElem?_toArray, List.getElem?_cons_zero]; rfl)
    case hsx0r => kernel_rfl
    case hfx0r => kernel_rfl
    case hrx0r => kernel_rfl
    case hQx0r => exact fun _ _ _ h => h
    case hwx0r => rfl
    case hyx0r =>
      intro W hW
      go_simp
      try with_reducible rfl
    simp only [Act.put, List.setIfInBounds_toArray, List.set_cons_succ, List.set_cons_zero]
    refine' wpAnyH_take (i := 4) ?h1x4r ?hsx4r ?hfx4r ?hrx4r ?hQx4r (Or.inl ⟨?hwx4r, ?hyx4r⟩) hS ?restx4r
    case h1x4r => (simp only [List.getElem?_toArray, List.getElem?_cons_succ, List.getElem?_cons_zero]; rfl)
    case hsx4r => kernel_rfl
    case hfx4r => kernel_rfl
    case hrx4r => kernel_rfl
    case hQx4r => exact fun _ _ _ h => h
    case hwx4r => rfl
    case hyx4r =>
      intro W hW
      go_simp
      try with_reducible rfl
    simp only [Act.put, List.setIfInBounds_toArray, List.set_cons_succ, List.set_cons_zero]
    refine' wpAnyH_take (i := 8) ?h1x8r ?hsx8r ?hfx8r ?hrx8r ?hQx8r (Or.inl ⟨?hwx8r, ?hyx8r⟩) hS ?restx8r
    case h1x8r => (simp only [List.getElem?_toArray, List.getElem?_cons_succ, List.getElem?_cons_zero]; rfl)
    case hsx8r => kernel_rfl
    case hfx8r => kernel_rfl
    case hrx8r => kernel_rfl
    case hQx8r => exact fun _ _ _ h => h
    case hwx8r => rfl
    case hyx8r =>
      intro W hW
      go_simp
      try with_reducible rfl
    simp only [Act.put, List.setIfInBounds_toArray, List.set_cons_succ, List.set_cons_zero]
    refine' wpAnyH_take (i := 1) ?h1x1r ?hsx1r ?hfx1r ?hrx1r ?hQx1r (Or.inl ⟨?hwx1r, ?hyx1r⟩) hS ?restx1r
    case h1x1r => (simp only [List.getElem?_toArray, List.getElem?_cons_succ, List.getElem?_cons_zero]; rfl)
    case hsx1r => kernel_rfl
    case hfx1r => kernel_rfl
    case hrx1r => kernel_rfl
    case hQx1r => exact fun _ _ _ h => h
    case hwx1r => rfl
    case hyx1r =>
      intro W hW
      have dd := (CE.out W hW.2).1
      go_simp
      try with_reducible rfl
    simp only [Act.put, List.setIfInBounds_toArray, List.set_cons_succ, List.set_cons_zero]
    refine' wpAnyH_take (i := 5) ?h1x5r ?hsx5r ?hfx5r ?hrx5r ?hQx5r (Or.inl ⟨?hwx5r, ?hyx5r⟩) hS ?restx5r
    case h1x5r => (simp only [List.getElem?_toArray, List.getElem?_cons_succ, List.getElem?_cons_zero]; rfl)
    case hsx5r => kernel_rfl
    case hfx5r => kernel_rfl
    case hrx5r => kernel_rfl
    case hQx5r => exact fun _ _ _ h => h
    case hwx5r => rfl
    case hyx5r =>
      intro W hW
      have dd := (CE.out W hW.2).2.1
      go_simp
      try with_reducible rfl
    simp only [Act.put, List.setIfInBounds_toArray, List.set_cons_succ, List.set_cons_zero]
    refine' wpAnyH_take (i := 9) ?h1x9r ?hsx9r ?hfx9r ?hrx9r ?hQx9r (Or.inl ⟨?hwx9r, ?hyx9r⟩) hS ?restx9r
    case h1x9r => (simp only [List.getElem?_toArray, List.getElem?_cons_succ, List.getElem?_cons_zero]; rfl)
    case hsx9r => kernel_rfl
    case hfx9r => kernel_rfl
    case hrx9r => kernel_rfl
    case hQx9r => exact fun _ _ _ h => h
    case hwx9r => rfl
    case hyx9r =>
      intro W hW
      have dd := (CE.out W hW.2).2.2
      go_simp
      try with_reducible rfl
    simp only [Act.put, List.setIfInBounds_toArray, List.set_cons_succ, List.set_cons_zero]
    refine' wpAnyH_take (i := 2) ?h1x2r ?hsx2r ?hfx2r ?hrx2r ?hQx2r (Or.inl ⟨?hwx2r, ?hyx2r⟩) hS ?restx2r
    case h1x2r => (simp only [List.getElem?_toArray, List.getElem?_cons_succ, List.getElem?_cons_zero]; rfl)
    case hsx2r => kernel_rfl
    case hfx2r => kernel_rfl
    case hrx2r => kernel_rfl
    case hQx2r => exact fun _ _ _ h => h
    case hwx2r => rfl
    case hyx2r =>
      intro W hW
      have dd := WU1.out
      go_simp
      try with_reducible rfl
    simp only [Act.put, List.setIfInBounds_toArray, List.set_cons_succ, List.set_cons_zero]
    refine' wpAnyH_take (i := 6) ?h1x6r ?hsx6r ?hfx6r ?hrx6r ?hQx6r (Or.inl ⟨?hwx6r, ?hyx6r⟩) hS ?restx6r
    case h1x6r => (simp only [List.getElem?_toArray, List.getElem?_cons_succ, List.getElem?_cons_zero]; rfl)
    case hsx6r => kernel_rfl
    case hfx6r => kernel_rfl
    case hrx6r => kernel_rfl
    case hQx6r => exact fun _ _ _ h => h
    case hwx6r => rfl
    case hyx6r =>
      intro W hW
      have dd := WU2.out
      go_simp
      try with_reducible rfl
    simp only [Act.put, List.setIfInBounds_toArray, List.set_cons_succ, List.set_cons_zero]
    refine wpAnyH_ready (rs := [3]) (by kernel_rfl) (by simp) ?_
    refine' (AllReadyH.cons ?hoc3r (fun K hK => ?stc3r) AllReadyH.nil)
    case hoc3r => (simp only [List.getElem?_toArray, List.getElem?_cons_succ, List.getElem?_cons_zero]; rfl)
    go_simp
    refine (P2.out Wrs).mono ?_
    rintro e Wrx3 ⟨q1, rfl, hs, hb, _⟩
    have SA := Lib.hid hs
    clear hs
    go_wp2_with fail
    refine hK.out _ _ (⟨hS.1.trans (hb.mono hS.1.size), (hb.block _ (blk_lt hS.2)).trans hS.2⟩) (fun hHeld => ?_)
    clear hK K
    try simp only [Act.put, List.setIfInBounds_toArray, List.set_cons_succ, List.set_cons_zero]
    clear hS
    have hS := hHeld
    clear hHeld
    clear hb
    refine wpAnyH_ready (rs := [7]) (by kernel_rfl) (by simp) ?_
    refine' (AllReadyH.cons ?hoc7rx3 (fun K hK => ?stc7rx3) AllReadyH.nil)
    case hoc7rx3 => (simp only [List.getElem?_toArray, List.getElem?_cons_succ, List.getElem?_cons_zero]; rfl)
    go_simp
    refine (P4.out Wrx3).mono ?_
    rintro e Wrx3x7 ⟨q2, rfl, hs, hb, _⟩
    have SA := Lib.hid (SA.out.below hb)
    have SB := Lib.hid hs
    clear hs
    go_wp2_with fail
    refine hK.out _ _ (⟨hS.1.trans (hb.mono hS.1.size), (hb.block _ (blk_lt hS.2)).trans hS.2⟩) (fun hHeld => ?_)
    clear hK K
    try simp only [Act.put, List.setIfInBounds_toArray, List.set_cons_succ, List.set_cons_zero]
    clear hS
    have hS := hHeld
    clear hHeld
    clear hb
    refine wpAnyH_ready (rs := [10]) (by kernel_rfl) (by simp) ?_
    refine' (AllReadyH.cons ?hoc10rx3x7 (fun K hK => ?stc10rx3x7) AllReadyH.nil)
    case hoc10rx3x7 => (simp only [List.getElem?_toArray, List.getElem?_cons_succ, List.getElem?_cons_zero]; rfl)
    go_simp
    have hb := (Below.refl Wrx3x7.heap.size Wrx3x7).alloc (Nat.le_refl _) (.cells #[.slice (some ⟨q1, 0, none⟩) 2 2, .slice (some ⟨q2, 0, none⟩) 4 4, .slice x l cp] 23)
    refine hK.out _ _ (⟨hS.1.trans (hb.mono hS.1.size), (hb.block _ (blk_lt hS.2)).trans hS.2⟩) (fun hHeld => ?_)
    clear hK K
    try simp only [Act.put, List.setIfInBounds_toArray, List.set_cons_succ, List.set_cons_zero]
    have qGB := heap_alloc_new Wrx3x7 (.cells #[.slice (some ⟨q1, 0, none⟩) 2 2, .slice (some ⟨q2, 0, none⟩) 4 4, .slice x l cp] 23)
    have hgb := hS.1.size
    have qSA := SA.out.below hb
    have qSB := SB.out.below hb
    clear hS
    have hS := hHeld
    clear hHeld
    clear hb
    clear SA SB
    generalize Wrx3x7.alloc (.cells #[.slice (some ⟨q1, 0, none⟩) 2 2, .slice (some ⟨q2, 0, none⟩) 4 4, .slice x l cp] 23) = Wrx3x7x10 at *
    generalize Wrx3x7.heap.size = gb at *
    have SA := Lib.hid qSA
    have SB := Lib.hid qSB
    have GB := Lib.hid qGB
    clear qSA qSB qGB
    refine wpAnyH_ready (rs := [11]) (by kernel_rfl) (by simp) ?_
    refine' (AllReadyH.cons ?hoc11rx3x7x10 (fun K hK => ?stc11rx3x7x10) AllReadyH.nil)
    case hoc11rx3x7x10 => (simp only [List.getElem?_toArray, List.getElem?_cons_succ, List.getElem?_cons_zero]; rfl)
    go_simp
    refine (CN.out Wrx3x7x10 gb q1 q2 GB.out SA.out SB.out hS.1).mono ?_
    rintro e Wrx3x7x10x11 ⟨xo, co, rfl, ho, hb⟩
    have SA := Lib.hid (SA.out.below hb)
    have SB := Lib.hid (SB.out.below hb)
    have GB := Lib.hid ((hb.block _ (blk_lt GB.out)).trans GB.out)
    have OX := Lib.hid ho.sees
    clear ho
    go_wp2_with fail
    refine hK.out _ _ (⟨hS.1.trans (hb.mono hS.1.size), (hb.block _ (blk_lt hS.2)).trans hS.2⟩) (fun hHeld => ?_)
    clear hK K
    try simp only [Act.put, List.setIfInBounds_toArray, List.set_cons_succ, List.set_cons_zero]
    clear hS
    have hS := hHeld
    clear hHeld
    clear hb
    refine' wpAnyH_take (i := 12) ?h1x12rx3x7x10x11 ?hsx12rx3x7x10x11 ?hfx12rx3x7x10x11 ?hrx12rx3x7x10x11 ?hQx12rx3x7x10x11 (Or.inl ⟨?hwx12rx3x7x10x11, ?hyx12rx3x7x10x11⟩) hS ?restx12rx3x7x10x11
    case h1x12rx3x7x10x11 => (simp only [List.getElem?_toArray, List.getElem?_cons_succ, List.getElem?_cons_zero]; rfl)
    case hsx12rx3x7x10x11 => kernel_rfl
    case hfx12rx3x7x10x11 => kernel_rfl
    case hrx12rx3x7x10x11 => kernel_rfl
    case hQx12rx3x7x10x11 => exact fun _ _ _ h => h
    case hwx12rx3x7x10x11 => rfl
    case hyx12rx3x7x10x11 =>
      intro W hW
      go_simp
      try with_reducible rfl
    simp only [Act.put, List.setIfInBounds_toArray, List.set_cons_succ, List.set_cons_zero]
    refine' wpAnyH_take (i := 13) ?h1x13rx3x7x10x11 ?hsx13rx3x7x10x11 ?hfx13rx3x7x10x11 ?hrx13rx3x7x10x11 ?hQx13rx3x7x10x11 (Or.inl ⟨?hwx13rx3x7x10x11, ?hyx13rx3x7x10x11⟩) hS ?restx13rx3x7x10x11
    case h1x13rx3x7x10x11 => (simp only [List.getElem?_toArray, List.getElem?_cons_succ, List.getElem?_cons_zero]; rfl)
    case hsx13rx3x7x10x11 => kernel_rfl
    case hfx13rx3x7x10x11 => kernel_rfl
    case hrx13rx3x7x10x11 => kernel_rfl
    case hQx13rx3x7x10x11 => exact fun _ _ _ h => h
    case hwx13rx3x7x10x11 => rfl
    case hyx13rx3x7x10x11 =>
      intro W hW
      go_simp
      try with_reducible rfl
    simp only [Act.put, List.setIfInBounds_toArray, List.set_cons_succ, List.set_cons_zero]
    refine wpAnyH_done (by kernel_rfl) ?_ _
    go_wp2_with fail
    exact YES.out _ _ _ hS.1 OX.out
end Go.Proofs.Ytabopcfhonkecaa
