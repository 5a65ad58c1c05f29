/-
  Contracts of the functions that the statements of package super go through: a register's bytes. Condition: the register's numbers fit their kinds, its sum is 32 bytes.
-/
import Derived.Test.YtplffbpnjnbolaaSuC
namespace Go.Proofs.Ytplffbpnjnbolaa
open Go.RowKit
/-- A register. -/
structure Rg where
  z : List Int
  g : Int
  e : Int
  k : Int
def Rg.ok (R : Rg) : Prop := (0 ≤ R.g ∧ R.g ≤ 18446744073709551615) ∧ (0 ≤ R.e ∧ R.e ≤ 18446744073709551615) ∧ (0 ≤ R.k ∧ R.k ≤ 255) ∧ Byt R.z ∧ R.z.length = 32
def gcells (R : Rg) : Array Value := bcells R.z ++ #[.int .u64 R.g, .int .u64 R.e, .int .u8 R.k]
theorem gcells_size {R : Rg} (h : R.z.length = 32) : (gcells R).size = 35 := by simp [gcells, bcells_size, h]
theorem gcells_toList (R : Rg) : (gcells R).toList = R.z.map (Value.int .u8) ++ [.int .u64 R.g, .int .u64 R.e, .int .u8 R.k] := by simp [gcells, bcells_toList]
theorem gcell {R : Rg} (hl : R.z.length = 32) {W : World} {b : Nat} {t : TypeId} (h : W.heap[b]? = some (.cells (gcells R) t (0, 0))) :
    W.cell? ⟨b, 32, none⟩ = some (.int .u64 R.g) ∧ W.cell? ⟨b, 33, none⟩ = some (.int .u64 R.e) ∧ W.cell? ⟨b, 34, none⟩ = some (.int .u8 R.k) := by
  refine ⟨?_, ?_, ?_⟩ <;>
  · rw [cell_of_row _ _ _ _ _ _ h, ← Array.getElem?_toList, gcells_toList, List.getElem?_append_right (by simp [hl])]
    simp [hl]
theorem gsum {R : Rg} (hz : Byt R.z) (hl : R.z.length = 32) {W : World} {b : Nat} {t : TypeId} (h : W.heap[b]? = some (.cells (gcells R) t (0, 0))) : Sees W (.slice (some ⟨b, 0, none⟩) 32 32) R.z := by
  refine ⟨hz, .inr (.inr ⟨b, 0, 32, by rw [hl], fun e => by rw [e] at hl; simp at hl, by rw [hl]; exact Nat.le_refl _, by decide, fun i hi => ?_⟩)⟩
  rw [cell_of_row _ _ _ _ _ _ h, ← Array.getElem?_toList, gcells_toList, List.getElem?_append_left (by simpa using hi)]
  simp [nth, List.getD, hi]
def gP (R : Rg) : List (List Int) := [R.z, be 8 R.g, be 8 R.e, be 1 R.k]
def gB (R : Rg) : List Int := (gP R).flatten
def gW (R : Rg) : List Int := gB R ++ zs 15
theorem gB_len {R : Rg} (h : R.z.length = 32) : (gB R).length = 49 := by simp [gB, gP, be_len, h]
theorem gB_byt {R : Rg} (h : Byt R.z) : Byt (gB R) := by
  unfold gB gP
  simp only [List.flatten_cons, List.flatten_nil, List.append_nil]
  exact h.append ((be_byt _ _).append ((be_byt _ _).append (be_byt _ _)))
theorem gW_len {R : Rg} (h : R.z.length = 32) : (gW R).length = 64 := by simp [gW, gB_len h, zs_len]
theorem gW_byt {R : Rg} (h : Byt R.z) : Byt (gW R) := (gB_byt h).append (zs_byt _)
def gE (R : Rg) : Int := if R.k ≤ 1 then 0 else 3
def gV (R : Rg) : List Int := if R.k ≤ 1 then gW R else zs 64
def WriteGP (w : World) (R : Rg) (e : Ending) (w' : World) : Prop := e = .returned (.tuple #[.agg (bcells (gV R)), .int .i64 (gE R)]) ∧ Below w.heap.size w w'
theorem writeGP_no {R : Rg} {w w' : World} (h : ¬ R.k ≤ 1) (hb : Below w.heap.size w w') : WriteGP w R (.returned (.tuple #[.agg (bcells (zs 64)), .int .i64 3])) w' := by
  unfold WriteGP gE gV
  rw [if_neg h, if_neg h]
  exact ⟨rfl, hb⟩
theorem writeGP_yes {R : Rg} {w w' : World} (h : R.k ≤ 1) (hb : Below w.heap.size w w') : WriteGP w R (.returned (.tuple #[.agg (bcells (gW R)), .int .i64 0])) w' := by
  unfold WriteGP gE gV
  rw [if_pos h, if_pos h]
  exact ⟨rfl, hb⟩
theorem gV_len {R : Rg} (h : R.z.length = 32) : (gV R).length = 64 := by
  unfold gV; split
  · exact gW_len h
  · exact zs_len _
theorem gV_byt {R : Rg} (h : Byt R.z) : Byt (gV R) := by
  unfold gV; split
  · exact gW_byt h
  · exact zs_byt _
theorem i47 {xs : List Int} (h : xs.length = 64) : (Try.prog.info? 47).map (·.size) = some (bcells xs).size := by rw [bcells_size, h]; kernel_rfl
set_option maxRecDepth 100000 in
theorem z47 (w : World) : (zeroValue 47).run Try.prog w = .ok (.agg (bcells (zs 64))) w := by kernel_rfl
set_option maxRecDepth 100000 in
theorem bld47 (w : World) : (Instr.build 47 #[]).run Try.prog w = .ok (.agg (bcells (zs 64))) w := by kernel_rfl
theorem gB_join (R : Rg) (hl : R.z.length = 32) : (gP R).flatten ++ (zs 64).drop (gP R).flatten.length = gW R := by
  show gB R ++ (zs 64).drop (gB R).length = _
  rw [gB_len hl, zs_drop]
  rfl
set_option maxRecDepth 100000 in
set_option maxHeartbeats 8000000 in
theorem writeG (R : Rg) (hk : R.ok) (w : World) : Calls Try.prog 18 #[.agg (gcells R)] w (WriteGP w R) := by
  obtain ⟨hg, he, hw, hz, hl⟩ := hk
  have hz47 := z47
  obtain ⟨W2, hW2⟩ : ∃ W2, W2 = (w.alloc (.cells (gcells R) 46)).alloc (.cells (bcells (zs 64)) 47) := ⟨_, rfl⟩
  have HW2 := Lib.hid hW2
  have BE2 : Hid (Below w.heap.size w W2) := by rw [hW2]; exact ((Below.refl _ _).alloc (Nat.le_refl _) _).alloc (by simp) _
  have G1 : Hid (W2.heap[w.heap.size]? = some (.cells (gcells R) 46 (0, 0))) := by show _ = _; rw [hW2, Below.heap_alloc _ _ _ (by simp)]; exact heap_alloc_new w _
  have G2 : Hid (W2.heap[w.heap.size + 1]? = some (.cells (bcells (zs 64)) 47 (0, 0))) := by show _ = _; rw [hW2]; exact heap_alloc2_new w _ _
  have SZ2 : Hid (W2.heap.size = w.heap.size + 1 + 1) := by show _ = _; rw [hW2]; simp
  have ck0 : ((w.alloc (.cells (gcells R) 46)).alloc (.cells (bcells (zs 64)) 47)).cell? ⟨w.heap.size, 34, none⟩ = some (.int .u8 R.k) := by rw [← hW2]; exact (gcell hl G1.out).2.2
  have BZ := Lib.hid bld47
  have IZ := Lib.hid (i47 (zs_len 64))
  have OZ := Lib.hid (one_cells (zs 64))
  clear hW2
  by_cases hk1 : R.k ≤ 1
  · have I1 := Lib.hid (i47 (gW_len hl))
    have O1 := Lib.hid (one_cells (gW R))
    have Z1 := Lib.hid (bcells_sz (show (zs 64).length = (gW R).length by rw [zs_len, gW_len hl]))
    have PG : Hid (∀ W, Calls Try.prog 34 #[.int .u64 R.g] W (NewP W 8 (be 8 R.g))) := fun W => putb64 _ hg.1 hg.2 W
    have PE : Hid (∀ W, Calls Try.prog 34 #[.int .u64 R.e] W (NewP W 8 (be 8 R.e))) := fun W => putb64 _ he.1 he.2 W
    have PK : Hid (∀ W, Calls Try.prog 45 #[.int .u8 R.k] W (NewP W 1 (be 1 R.k))) := fun W => putb8 _ hw.1 hw.2 W
    have PL : Hid ((gP R).flatten.length = 49) := gB_len hl
    have JO : Hid (∀ W pv, W.heap[w.heap.size + 1 + 1]? = some (.cells (bcells (zs 64)) 47 (0, 0)) → PS W pv (gP R) (w.heap.size + 1 + 1) →
        Calls Try.prog 32 #[.slice (some ⟨w.heap.size + 1 + 1, 0, none⟩) 64 64, pv] W fun e w' => (∃ r, e = .returned r) ∧ w' = W.setRow (w.heap.size + 1 + 1) (bcells (gW R))) := fun W pv hg hp => by
      have := join (w.heap.size + 1 + 1) 47 (zs 64) (gP R) pv (by rw [zs_len]; decide) (by rw [PL.out, zs_len]; decide) W hg hp
      unfold JoinP at this
      rw [gB_join R hl, zs_len] at this
      exact this
    have YES : Hid (∀ W, Below w.heap.size w W → WriteGP w R (.returned (.tuple #[.agg (bcells (gW R)), .int .i64 0])) W) := fun W hb => writeGP_yes hk1 hb
    have PSF : Hid (∀ (W : World) (gp : Nat) (v1 v2 v3 v4 : Value) (cs : Array Value), cs = #[v1, v2, v3, v4] → W.heap[gp]? = some (.cells cs 30 (0, 0)) → gp ≠ w.heap.size + 1 + 1 →
        (∀ v p, (v, p) ∈ [(v1, R.z), (v2, be 8 R.g), (v3, be 8 R.e), (v4, be 1 R.k)] → Sees W v p ∧ v.ownBlock ≠ some (w.heap.size + 1 + 1)) →
        PS W (.slice (some ⟨gp, 0, none⟩) 4 4) (gP R) (w.heap.size + 1 + 1)) := fun W gp v1 v2 v3 v4 cs hcs hg hne hv => by
      subst hcs
      have key : ∀ (i : Nat) (v : Value) (p : List Int), (#[v1, v2, v3, v4] : Array Value)[i]? = some v → p ≠ [] → Sees W v p → v.ownBlock ≠ some (w.heap.size + 1 + 1) →
          ∃ bx ox c', W.cell? ⟨gp, 0 + i, none⟩ = some (.slice (some ⟨bx, ox, none⟩) p.length c') ∧ gp ≠ w.heap.size + 1 + 1 ∧ bx ≠ w.heap.size + 1 + 1 ∧ ∀ j, j < p.length → W.cell? ⟨bx, ox + j, none⟩ = some (.int .u8 (nth p j)) := fun i v p hi hp hs ho => by
        obtain ⟨_, ⟨_, h2⟩ | ⟨_, _, _, h2, _⟩ | ⟨bx, ox, c', rfl, _, _, _, hc⟩⟩ := hs
        · exact absurd h2 hp
        · exact absurd h2 hp
        · exact ⟨bx, ox, c', by rw [Nat.zero_add, cell_of_row _ _ _ _ _ _ hg, hi], hne, fun e => ho (by rw [← e]; rfl), hc⟩
      refine ⟨gp, 0, 4, rfl, by simp [gP], fun i p hp => ?_⟩
      match i, hp with
      | 0, hp => obtain rfl : R.z = p := by simpa [gP] using hp
                 exact key 0 v1 _ rfl (fun e => by rw [e] at hl; simp at hl) (hv v1 _ (by simp)).1 (hv v1 R.z (by simp)).2
      | 1, hp => obtain rfl : be 8 R.g = p := by simpa [gP] using hp
                 exact key 1 v2 _ rfl (fun e => by have := be_len 8 R.g; rw [e] at this; simp at this) (hv v2 _ (by simp)).1 (hv v2 (be 8 R.g) (by simp)).2
      | 2, hp => obtain rfl : be 8 R.e = p := by simpa [gP] using hp
                 exact key 2 v3 _ rfl (fun e => by have := be_len 8 R.e; rw [e] at this; simp at this) (hv v3 _ (by simp)).1 (hv v3 (be 8 R.e) (by simp)).2
      | 3, hp => obtain rfl : be 1 R.k = p := by simpa [gP] using hp
                 exact key 3 v4 _ rfl (fun e => by have := be_len 1 R.k; rw [e] at this; simp at this) (hv v4 _ (by simp)).1 (hv v4 (be 1 R.k) (by simp)).2
      | k + 4, hp => simp [gP] at hp
    obtain ⟨W3, hW3⟩ : ∃ W3, W3 = W2.alloc (.cells (bcells (zs 64)) 47) := ⟨_, rfl⟩
    have hal : Below W2.heap.size W2 W3 := by rw [hW3]; exact (Below.refl _ _).alloc (Nat.le_refl _) _
    have BE := Lib.hid (BE2.out.trans (hal.mono BE2.out.size))
    have G13 := Lib.hid ((hal.block _ (blk_lt G1.out)).trans G1.out)
    have G23 := Lib.hid ((hal.block _ (blk_lt G2.out)).trans G2.out)
    have G5 : Hid (W3.heap[w.heap.size + 1 + 1]? = some (.cells (bcells (zs 64)) 47 (0, 0))) := by show _ = _; rw [hW3, ← SZ2.out]; exact heap_alloc_new W2 _
    have HL := Lib.hid hl
    have SM : Hid (Sees W3 (.slice (some ⟨w.heap.size, 0, none⟩) 32 32) R.z) := gsum hz hl G13.out
    have HW3 : Hid (W3 = ((w.alloc (.cells (gcells R) 46)).alloc (.cells (bcells (zs 64)) 47)).alloc (.cells (bcells (zs 64)) 47)) := by show _ = _; rw [hW3, HW2.out]
    clear hW3 hal hg he hw hz hl G1 G2 BE2 SZ2 HW2
    go_enter Try.func18, Try.ntmps18
    go_wp2_with fail
    rw [← HW3.out]
    refine wp_region_held_drew (S := fun W => Below w.heap.size w W ∧ W.heap[w.heap.size]? = some (.cells (gcells R) 46 (0, 0)) ∧ W.heap[w.heap.size + 1]? = some (.cells (bcells (zs 64)) 47 (0, 0))) (by kernel_rfl) (⟨BE.out.drew, G13.out, G23.out⟩) (fun hS => ?_)
    refine' wpAnyH_take (i := 0) ?h1x0a ?hsx0a ?hfx0a ?hrx0a ?hQx0a (Or.inl ⟨?hwx0a, ?hyx0a⟩) hS ?restx0a
    case h1x0a => (simp only [List.getElem?_toArray, List.getElem?_cons_zero]; rfl)
    case hsx0a => kernel_rfl
    case hfx0a => kernel_rfl
    case hrx0a => kernel_rfl
    case hQx0a => exact fun _ _ _ h => h
    case hwx0a => rfl
    case hyx0a =>
      intro W hW
      go_simp
      try with_reducible rfl
    simp only [Act.put, List.setIfInBounds_toArray, List.set_cons_succ, List.set_cons_zero]
    refine' wpAnyH_take (i := 1) ?h1x1a ?hsx1a ?hfx1a ?hrx1a ?hQx1a (Or.inl ⟨?hwx1a, ?hyx1a⟩) hS ?restx1a
    case h1x1a => (simp only [List.getElem?_toArray, List.getElem?_cons_succ, List.getElem?_cons_zero]; rfl)
    case hsx1a => kernel_rfl
    case hfx1a => kernel_rfl
    case hrx1a => kernel_rfl
    case hQx1a => exact fun _ _ _ h => h
    case hwx1a => rfl
    case hyx1a =>
      intro W hW
      go_simp
      try with_reducible rfl
    simp only [Act.put, List.setIfInBounds_toArray, List.set_cons_succ, List.set_cons_zero]
    refine' wpAnyH_take (i := 2) ?h1x2a ?hsx2a ?hfx2a ?hrx2a ?hQx2a (Or.inl ⟨?hwx2a, ?hyx2a⟩) hS ?restx2a
    case h1x2a => (simp only [List.getElem?_toArray, List.getElem?_cons_succ, List.getElem?_cons_zero]; rfl)
    case hsx2a => kernel_rfl
    case hfx2a => kernel_rfl
    case hrx2a => kernel_rfl
    case hQx2a => exact fun _ _ _ h => h
    case hwx2a => rfl
    case hyx2a =>
      intro W hW
      go_simp
      try with_reducible rfl
    simp only [Act.put, List.setIfInBounds_toArray, List.set_cons_succ, List.set_cons_zero]
    refine' wpAnyH_take (i := 3) ?h1x3a ?hsx3a ?hfx3a ?hrx3a ?hQx3a (Or.inl ⟨?hwx3a, ?hyx3a⟩) hS ?restx3a
    case h1x3a => (simp only [List.getElem?_toArray, List.getElem?_cons_succ, List.getElem?_cons_zero]; rfl)
    case hsx3a => kernel_rfl
    case hfx3a => kernel_rfl
    case hrx3a => kernel_rfl
    case hQx3a => exact fun _ _ _ h => h
    case hwx3a => rfl
    case hyx3a =>
      intro W hW
      go_simp
      try with_reducible rfl
    simp only [Act.put, List.setIfInBounds_toArray, List.set_cons_succ, List.set_cons_zero]
    refine' wpAnyH_take (i := 4) ?h1x4a ?hsx4a ?hfx4a ?hrx4a ?hQx4a (Or.inl ⟨?hwx4a, ?hyx4a⟩) hS ?restx4a
    case h1x4a => (simp only [List.getElem?_toArray, List.getElem?_cons_succ, List.getElem?_cons_zero]; rfl)
    case hsx4a => kernel_rfl
    case hfx4a => kernel_rfl
    case hrx4a => kernel_rfl
    case hQx4a => exact fun _ _ _ h => h
    case hwx4a => rfl
    case hyx4a =>
      intro W hW
      have dd := (gcell HL.out hW.2.1).1
      go_simp
      try with_reducible rfl
    simp only [Act.put, List.setIfInBounds_toArray, List.set_cons_succ, List.set_cons_zero]
    refine' wpAnyH_take (i := 6) ?h1x6a ?hsx6a ?hfx6a ?hrx6a ?hQx6a (Or.inl ⟨?hwx6a, ?hyx6a⟩) hS ?restx6a
    case h1x6a => (simp only [List.getElem?_toArray, List.getElem?_cons_succ, List.getElem?_cons_zero]; rfl)
    case hsx6a => kernel_rfl
    case hfx6a => kernel_rfl
    case hrx6a => kernel_rfl
    case hQx6a => exact fun _ _ _ h => h
    case hwx6a => rfl
    case hyx6a =>
      intro W hW
      go_simp
      try with_reducible rfl
    simp only [Act.put, List.setIfInBounds_toArray, List.set_cons_succ, List.set_cons_zero]
    refine' wpAnyH_take (i := 7) ?h1x7a ?hsx7a ?hfx7a ?hrx7a ?hQx7a (Or.inl ⟨?hwx7a, ?hyx7a⟩) hS ?restx7a
    case h1x7a => (simp only [List.getElem?_toArray, List.getElem?_cons_succ, List.getElem?_cons_zero]; rfl)
    case hsx7a => kernel_rfl
    case hfx7a => kernel_rfl
    case hrx7a => kernel_rfl
    case hQx7a => exact fun _ _ _ h => h
    case hwx7a => rfl
    case hyx7a =>
      intro W hW
      have dd := (gcell HL.out hW.2.1).2.1
      go_simp
      try with_reducible rfl
    simp only [Act.put, List.setIfInBounds_toArray, List.set_cons_succ, List.set_cons_zero]
    refine' wpAnyH_take (i := 9) ?h1x9a ?hsx9a ?hfx9a ?hrx9a ?hQx9a (Or.inl ⟨?hwx9a, ?hyx9a⟩) hS ?restx9a
    case h1x9a => (simp only [List.getElem?_toArray, List.getElem?_cons_succ, List.getElem?_cons_zero]; rfl)
    case hsx9a => kernel_rfl
    case hfx9a => kernel_rfl
    case hrx9a => kernel_rfl
    case hQx9a => exact fun _ _ _ h => h
    case hwx9a => rfl
    case hyx9a =>
      intro W hW
      go_simp
      try with_reducible rfl
    simp only [Act.put, List.setIfInBounds_toArray, List.set_cons_succ, List.set_cons_zero]
    refine' wpAnyH_take (i := 10) ?h1x10a ?hsx10a ?hfx10a ?hrx10a ?hQx10a (Or.inl ⟨?hwx10a, ?hyx10a⟩) hS ?restx10a
    case h1x10a => (simp only [List.getElem?_toArray, List.getElem?_cons_succ, List.getElem?_cons_zero]; rfl)
    case hsx10a => kernel_rfl
    case hfx10a => kernel_rfl
    case hrx10a => kernel_rfl
    case hQx10a => exact fun _ _ _ h => h
    case hwx10a => rfl
    case hyx10a =>
      intro W hW
      have dd := (gcell HL.out hW.2.1).2.2
      go_simp
      try with_reducible rfl
    simp only [Act.put, List.setIfInBounds_toArray, List.set_cons_succ, List.set_cons_zero]
    have SM : Hid (Sees W3.drew (.slice (some ⟨w.heap.size, 0, none⟩) 32 32) R.z) := SM.out
    have G5 : Hid (W3.drew.heap[w.heap.size + 1 + 1]? = some (.cells (bcells (zs 64)) 47 (0, 0))) := G5.out
    have SZ : w.heap.size + 1 + 1 < W3.drew.heap.size := blk_lt G5.out
    refine wpAnyH_ready (rs := [5]) (by kernel_rfl) (by simp) ?_
    refine' AllReadyH.cons ?hoc5a (fun K hK => ?stc5a) AllReadyH.nil
    case hoc5a => (simp only [List.getElem?_toArray, List.getElem?_cons_succ, List.getElem?_cons_zero]; rfl)
    go_simp
    refine (PG.out _).mono ?_
    rintro e wka1 ⟨gb, rfl, hs, hb, hn⟩
    go_wp2_with fail
    refine hK.out _ _ (⟨hS.1.trans (hb.mono hS.1.size), (hb.block _ (blk_lt hS.2.1)).trans hS.2.1, (hb.block _ (blk_lt hS.2.2)).trans hS.2.2⟩) (fun hHeld => ?_)
    clear hK K
    try simp only [Act.put, List.setIfInBounds_toArray, List.set_cons_succ, List.set_cons_zero]
    have Sb := Lib.hid hs
    have Nb : gb ≠ w.heap.size + 1 + 1 := by omega
    clear hs hn
    have G5 := Lib.hid ((hb.block _ (blk_lt G5.out)).trans G5.out)
    have SM := Lib.hid (SM.out.below hb)
    have SZ := Nat.lt_of_lt_of_le SZ hb.size
    clear hS hb
    have hS := hHeld
    clear hHeld
    refine wpAnyH_ready (rs := [8]) (by kernel_rfl) (by simp) ?_
    refine' AllReadyH.cons ?hoc8a (fun K hK => ?stc8a) AllReadyH.nil
    case hoc8a => (simp only [List.getElem?_toArray, List.getElem?_cons_succ, List.getElem?_cons_zero]; rfl)
    go_simp
    refine (PE.out _).mono ?_
    rintro e wka2 ⟨gc, rfl, hs, hb, hn⟩
    go_wp2_with fail
    refine hK.out _ _ (⟨hS.1.trans (hb.mono hS.1.size), (hb.block _ (blk_lt hS.2.1)).trans hS.2.1, (hb.block _ (blk_lt hS.2.2)).trans hS.2.2⟩) (fun hHeld => ?_)
    clear hK K
    try simp only [Act.put, List.setIfInBounds_toArray, List.set_cons_succ, List.set_cons_zero]
    have Sc := Lib.hid hs
    have Nc : gc ≠ w.heap.size + 1 + 1 := by omega
    clear hs hn
    have G5 := Lib.hid ((hb.block _ (blk_lt G5.out)).trans G5.out)
    have SM := Lib.hid (SM.out.below hb)
    have SZ := Nat.lt_of_lt_of_le SZ hb.size
    have Sb := Lib.hid (Sb.out.below hb)
    clear hS hb
    have hS := hHeld
    clear hHeld
    refine wpAnyH_ready (rs := [11]) (by kernel_rfl) (by simp) ?_
    refine' AllReadyH.cons ?hoc11a (fun K hK => ?stc11a) AllReadyH.nil
    case hoc11a => (simp only [List.getElem?_toArray, List.getElem?_cons_succ, List.getElem?_cons_zero]; rfl)
    go_simp
    refine (PK.out _).mono ?_
    rintro e wka3 ⟨gd, rfl, hs, hb, hn⟩
    go_wp2_with fail
    refine hK.out _ _ (⟨hS.1.trans (hb.mono hS.1.size), (hb.block _ (blk_lt hS.2.1)).trans hS.2.1, (hb.block _ (blk_lt hS.2.2)).trans hS.2.2⟩) (fun hHeld => ?_)
    clear hK K
    try simp only [Act.put, List.setIfInBounds_toArray, List.set_cons_succ, List.set_cons_zero]
    have Sd := Lib.hid hs
    have Nd : gd ≠ w.heap.size + 1 + 1 := by omega
    clear hs hn
    have G5 := Lib.hid ((hb.block _ (blk_lt G5.out)).trans G5.out)
    have SM := Lib.hid (SM.out.below hb)
    have SZ := Nat.lt_of_lt_of_le SZ hb.size
    have Sb := Lib.hid (Sb.out.below hb)
    have Sc := Lib.hid (Sc.out.below hb)
    clear hS hb
    have hS := hHeld
    clear hHeld
    refine wpAnyH_ready (rs := [12]) (by kernel_rfl) (by simp) ?_
    refine' AllReadyH.cons ?hoc12a (fun K hK => ?stc12a) AllReadyH.nil
    case hoc12a => (simp only [List.getElem?_toArray, List.getElem?_cons_succ, List.getElem?_cons_zero]; rfl)
    go_simp
    have hb : Below wka3.heap.size wka3 (wka3.alloc (.cells #[.slice (some ⟨w.heap.size, 0, none⟩) 32 32, .slice (some ⟨gb, 0, none⟩) 8 8, .slice (some ⟨gc, 0, none⟩) 8 8, .slice (some ⟨gd, 0, none⟩) 1 1] 30)) := (Below.refl _ _).alloc (Nat.le_refl _) _
    refine hK.out _ _ (⟨hS.1.trans (hb.mono hS.1.size), (hb.block _ (blk_lt hS.2.1)).trans hS.2.1, (hb.block _ (blk_lt hS.2.2)).trans hS.2.2⟩) (fun hHeld => ?_)
    clear hK K
    try simp only [Act.put, List.setIfInBounds_toArray, List.set_cons_succ, List.set_cons_zero]
    have GP := Lib.hid (heap_alloc_new wka3 (.cells #[.slice (some ⟨w.heap.size, 0, none⟩) 32 32, .slice (some ⟨gb, 0, none⟩) 8 8, .slice (some ⟨gc, 0, none⟩) 8 8, .slice (some ⟨gd, 0, none⟩) 1 1] 30))
    have NP : wka3.heap.size ≠ w.heap.size + 1 + 1 := by omega
    have G5 := Lib.hid ((hb.block _ (blk_lt G5.out)).trans G5.out)
    have SM := Lib.hid (SM.out.below hb)
    have SZ := Nat.lt_of_lt_of_le SZ hb.size
    have Sb := Lib.hid (Sb.out.below hb)
    have Sc := Lib.hid (Sc.out.below hb)
    have Sd := Lib.hid (Sd.out.below hb)
    generalize wka3.alloc (.cells #[.slice (some ⟨w.heap.size, 0, none⟩) 32 32, .slice (some ⟨gb, 0, none⟩) 8 8, .slice (some ⟨gc, 0, none⟩) 8 8, .slice (some ⟨gd, 0, none⟩) 1 1] 30) = wka4 at *
    clear hS hb
    have hS := hHeld
    clear hHeld
    generalize wka3.heap.size = gwka4 at *
    have PX := Lib.hid (PSF.out _ _ _ _ _ _ _ rfl GP.out NP (fun v p hvp => by
      simp only [List.mem_cons, Prod.mk.injEq, List.not_mem_nil, or_false] at hvp
      rcases hvp with ⟨rfl, rfl⟩ | ⟨rfl, rfl⟩ | ⟨rfl, rfl⟩ | ⟨rfl, rfl⟩
      · exact ⟨SM.out, by simp [Value.ownBlock]; omega⟩
      · exact ⟨Sb.out, by simpa [Value.ownBlock] using Nb⟩
      · exact ⟨Sc.out, by simpa [Value.ownBlock] using Nc⟩
      · exact ⟨Sd.out, by simpa [Value.ownBlock] using Nd⟩))
    refine wpAnyH_ready (rs := [13]) (by kernel_rfl) (by simp) ?_
    refine' AllReadyH.cons ?hoc13a (fun K hK => ?stc13a) AllReadyH.nil
    case hoc13a => (simp only [List.getElem?_toArray, List.getElem?_cons_succ, List.getElem?_cons_zero]; rfl)
    go_simp
    refine (JO.out _ _ G5.out PX.out).mono ?_
    rintro e wl ⟨⟨r, rfl⟩, rfl⟩
    go_wp2_with fail
    refine hK.out _ _ ⟨hS.1.trans (below_row _ _ (by omega)), (setRow_other _ _ _ _ (by omega)).trans hS.2.1, (setRow_other _ _ _ _ (by omega)).trans hS.2.2⟩ (fun hHeld => ?_)
    clear hK K
    try simp only [Act.put, List.setIfInBounds_toArray, List.set_cons_succ, List.set_cons_zero]
    have GE : Hid ((wka4.setRow (w.heap.size + 1 + 1) (bcells (gW R))).heap[w.heap.size + 1 + 1]? = some (.cells (bcells (gW R)) 47 (0, 0))) := setRow_heap _ _ _ _ _ _ G5.out
    clear hS
    have hS := hHeld
    clear hHeld
    refine wpAnyH_done (by kernel_rfl) ?_ _
    generalize wka4.setRow (w.heap.size + 1 + 1) (bcells (gW R)) = WL at *
    have GR := Lib.hid hS.2.2
    have BL := Lib.hid hS.1
    clear hS
    generalize bcells (gW R) = CW at *
    generalize bcells (zs 64) = Z at *
    go_wp2_with (first
      | (refine wpList_load_row rfl 47 (.tmp 4) rfl (w.heap.size + 1 + 1) rfl 47 CW (0, 0) _ GE.out Try.underlying47 rfl I1.out ?_)
      | (refine wpList_store_row rfl 47 (.tmp 2) (.tmp 23) rfl (w.heap.size + 1) CW rfl rfl 47 Z GR.out I1.out Z1.out O1.out ?_))
    exact bodyPost_ret (v := .tuple #[.agg CW, .int .i64 0]) (results_cell_tmp Try.results18 _ _ (w.heap.size + 1) 47 CW (0, 0) _ rfl (setRow_heap _ _ _ _ _ _ GR.out) Try.underlying47 rfl I1.out) rfl (YES.out _ (BL.out.trans (below_row _ _ (by omega))))
  · have NO := Lib.hid (writeGP_no (w := w) (w' := W2) hk1 BE2.out)
    have R2 : Hid (W2.setRow (w.heap.size + 1) (bcells (zs 64)) = W2) := setRow_self _ _ _ _ _ G2.out
    have hk2 : ¬ R.k ≤ 1 := hk1
    have hk3 : (1 : Int) < R.k := by omega
    clear hg he hw hz hl hk1 hk2
    generalize bcells (zs 64) = Z at *
    go_enter Try.func18, Try.ntmps18
    go_wp2_with (first
      | (refine wpList_store_row rfl 47 (.tmp 2) (.tmp 8) rfl (w.heap.size + 1) Z rfl rfl 47 Z (by rw [← HW2.out]; exact G2.out) IZ.out rfl OZ.out ?_; rw [← HW2.out, R2.out])
      | (refine wpList_blank_met rfl 47 rfl (BZ.out _) ?_))
    exact bodyPost_ret (v := .tuple #[.agg Z, .int .i64 3]) (results_cell_tmp Try.results18 _ _ (w.heap.size + 1) 47 Z (0, 0) _ rfl G2.out Try.underlying47 rfl IZ.out) rfl NO.out
end Go.Proofs.Ytplffbpnjnbolaa
