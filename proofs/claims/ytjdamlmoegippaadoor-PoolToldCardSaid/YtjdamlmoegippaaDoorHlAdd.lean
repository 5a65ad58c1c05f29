/-
  Contracts of the functions that the statements of package sha go through: bytes that a hash takes in. Condition: the hash lies whole in its block, the slice reads as bytes of another block, and there are fewer than 2^60.
-/
import Derived.Test.YtjdamlmoegippaaDoorHlSl
import Derived.Deep.RegionLaw
import Derived.Deep.RegionHeld
import Derived.Outline
namespace Go.Proofs.YtjdamlmoegippaaDoor.hl
open Go.RowKit
theorem eight (H : List Int) (h : H.length = 8) : H = [nth H 0, nth H 1, nth H 2, nth H 3, nth H 4, nth H 5, nth H 6, nth H 7] := by
  match H, h with
  | [a, b, c, d, e, f, g, i], _ => rfl
theorem kk_u32 : U32 KK := by
  have h : KK.all (fun x => decide (0 ≤ x) && decide (x ≤ 4294967295)) = true := by decide +kernel
  intro x hx
  have := List.all_eq_true.1 h x hx
  simpa using this
/-- The contract of take, in these words. -/
theorem takes (H : List Int) (hH : H.length = 8) (hu : U32 H) (B : List Int) (hB : B.length = 64) (hb : Byt B) (w : World) (hg : Glob w) :
    Calls Tryd.prog 67 #[.agg (ucells H), .agg (bcells B)] w fun e1 w' => e1 = .returned (.agg (ucells (comp H B))) ∧ Below w.heap.size w w' := by
  have h := take KK kk_u32 (nth H 0) (nth H 1) (nth H 2) (nth H 3) (nth H 4) (nth H 5) (nth H 6) (nth H 7) (by rw [← eight H hH]; exact hu) B hB hb w hg.2 hg.lt
  rw [← eight H hH] at h
  have e : ucells H = #[.int .u32 (nth H 0), .int .u32 (nth H 1), .int .u32 (nth H 2), .int .u32 (nth H 3), .int .u32 (nth H 4), .int .u32 (nth H 5), .int .u32 (nth H 6), .int .u32 (nth H 7)] := by
    conv => lhs; rw [eight H hH]
    rfl
  rw [e]
  exact h
/-- Behind add: the hash has taken in the bytes; nothing else has turned. -/
def AddP (w : World) (g : Nat) (s : HSt) (c : Nat) (xs : List Int) (e : Ending) (w' : World) : Prop :=
  e = .returned (.tuple #[]) ∧ HSat w' g (puts s xs) ((c + xs.length : Nat) : Int) ∧ w.grownBy w' (some g)
set_option maxRecDepth 100000 in
set_option maxHeartbeats 4000000 in
theorem add (g : Nat) (s : HSt) (c : Nat) (v : Value) (xs : List Int) (w : World) (hs : HSat w g s (c : Int)) (hv : Sees w v xs) (hne : xs ≠ [] → v.ownBlock ≠ some g) (hc : c + xs.length ≤ 1152921504606846976) (h2 : 2 ≤ g) (hG : Glob w) :
    Calls Tryd.prog 64 #[.pointer (some ⟨g, 0, none⟩), v] w (AddP w g s c xs) := by
  obtain ⟨x0, cap0, hform, hlen⟩ := hv.form
  obtain ⟨hok, hg⟩ := hs
  have hok' := hok
  obtain ⟨hH, hHu, hB, hBb, hn⟩ := hok'
  have c74 := (cell_of_row _ _ 74 _ _ _ hg).trans (h_count true s.n c hH hB)
  have f74 := frozen_of_row w g 74 _ 129 hg
  have h74 : Hid ((w.setCell ⟨g, 74, none⟩ (.int .u64 ((c + xs.length : Nat) : Int))).heap[g]? = some (.cells (hcells true s.H s.B s.n ((c + xs.length : Nat) : Int)) 129 (0, 0))) := by
    show _ = _
    rw [heap_setCell_same _ _ _ _ _ _ hg, hset_count true s.n c _ hH hB]
  have hcb : (c : Int) + xs.length ≤ 1152921504606846976 := by omega
  subst hform
  have hcast : ((c + xs.length : Nat) : Int) = (c : Int) + xs.length := by omega
  have HV := Lib.hid hv
  have HOK := Lib.hid hok
  have HGL := Lib.hid hG
  have HNE := Lib.hid hne
  have HCAST := Lib.hid hcast
  clear hv hok hG hne hg hcast
  go_enter Tryd.func64, Tryd.ntmps64
  go_wp2_with fail
  have hg1 : w.grownBy (w.setCell ⟨g, 74, none⟩ (.int .u64 ((c : Int) + xs.length))) (some g) := ⟨rfl, rfl, rfl, by simp, fun k _ hk => by
    rw [heap_setCell_other _ _ _ _ (by simp; intro e; exact hk (by rw [e]))]⟩
  have h74' : (w.setCell ⟨g, 74, none⟩ (.int .u64 ((c : Int) + xs.length))).heap[g]? = some (.cells (hcells true s.H s.B s.n ((c + xs.length : Nat) : Int)) 129 (0, 0)) := by
    rw [← HCAST.out]; exact h74.out
  have hcc : c + xs.length ≤ 1152921504606846976 := by omega
  have hxl : xs.length ≤ 1152921504606846976 := by omega
  generalize hC : c + xs.length = C at *
  generalize hw1 : w.setCell ⟨g, 74, none⟩ (.int .u64 ((c : Int) + xs.length)) = w1 at *
  have G1 := Lib.hid hg1
  have H1 := Lib.hid h74'
  have HCC := Lib.hid hcc
  have HC0 := Lib.hid hC
  clear hg1 h74' hcc h74 hC hw1 hcb c74 f74 HCAST
  go_loopw [1] (fun v wr => ∃ k : Nat, k ≤ xs.length ∧ Sees wr v (xs.drop k) ∧ (xs.drop k ≠ [] → v.ownBlock ≠ some g) ∧ HSat wr g (puts s (xs.take k)) (C : Int) ∧ w.grownBy wr (some g)) (fun v _ => match v with | .slice _ l _ => l | _ => 0)
  case atStart => exact ⟨0, by omega, HV.out.grown_at G1.out (fun j e h => by have := HNE.out h; rw [← e]; exact this), HNE.out, ⟨HOK.out, H1.out⟩, G1.out⟩
  case round =>
    obtain ⟨k, hk, hsee, hne, ⟨hok1, hg⟩, hgr⟩ := hrel
    have hok2 := hok1
    obtain ⟨hH1, hHu1, hB1, hBb1, hn1⟩ := hok2
    obtain ⟨_, hsee'⟩ := id hsee
    by_cases hlt : k < xs.length
    · obtain ⟨b, o, cap, rfl, hys, hlc, hcm, hcell⟩ : ∃ b o cap, u1 = .slice (some ⟨b, o, none⟩) (xs.drop k).length cap ∧ xs.drop k ≠ [] ∧ (xs.drop k).length ≤ cap ∧ cap ≤ maxLen ∧ ∀ i, i < (xs.drop k).length → wr.cell? ⟨b, o + i, none⟩ = some (.int .u8 (nth (xs.drop k) i)) := by
        rcases hsee' with ⟨_, e⟩ | ⟨_, _, _, e, _⟩ | h
        · have := congrArg List.length e; simp at this; omega
        · have := congrArg List.length e; simp at this; omega
        · exact h
      have hbb : Byt (xs.drop k) := hsee.1
      have hbg : b ≠ g := fun e => hne hys (by rw [e]; rfl)
      have HP : Hid (puts s xs = puts (puts s (xs.take k)) (xs.drop k)) := by
        show _ = _
        rw [← puts_append, List.take_append_drop]
      have HPK : Hid (∀ m, m ≤ (xs.drop k).length → puts s (xs.take (k + m)) = puts (puts s (xs.take k)) ((xs.drop k).take m) ∧ xs.drop (k + m) = (xs.drop k).drop m) := fun m _ => by
        rw [← puts_append, List.drop_drop]
        exact ⟨by rw [← List.take_add], rfl⟩
      have hyl : (xs.drop k).length = xs.length - k := List.length_drop
      have hylen : 0 < (xs.drop k).length := by omega
      generalize hys0 : xs.drop k = ys at *
      generalize puts s (xs.take k) = s1 at *
      obtain ⟨m, hm⟩ : ∃ m, m = min (64 - s1.n) ys.length := ⟨_, rfl⟩
      have hm1 : 1 ≤ m := by omega
      have hm2 : m ≤ ys.length := by omega
      have hm3 : s1.n + m ≤ 64 := by omega
      have htl : (ys.take m).length = m := by rw [List.length_take]; omega
      have hrun := run_copy_row Tryd.prog wr.drew 37 37 3 5 g (9 + s1.n) (64 - s1.n) (64 - s1.n) ⟨b, o, none⟩ ys.length cap (hcells true s1.H s1.B s1.n C) 129 ((ys.take m).map (Value.int .u8)) Tryd.underlying37 info5s hg
        (by rw [List.length_map, htl, hm, Nat.min_comm]) (fun j u hj => by
          have hjm : j < m := by
            rcases Nat.lt_or_ge j m with h | h
            · exact h
            · rw [List.getElem?_eq_none (by rw [List.length_map, htl]; exact h)] at hj; cases hj
          have hplain : (⟨b, o, none⟩ : Addr).add j = ⟨b, o + j, none⟩ := by unfold Addr.add; split <;> simp_all
          rw [hplain]
          refine (hcell j (by omega)).trans ?_
          rw [← hj]
          have : j < ys.length := by omega
          simp [nth, List.getD, hjm, this]) (by
          have e : (hcells true s1.H s1.B s1.n C).size = 75 := by rw [hcells_eq, List.size_toArray, hlist_len hH1 hB1]
          rw [List.length_map, htl, e]; omega) (fun z hz => by obtain ⟨_, _, rfl⟩ := List.mem_map.1 hz; rfl)
      have hspl := hspl_B true (s1.n : Int) (C : Int) hH1 hB1 s1.n (ys.take m) (by rw [htl]; exact hm3)
      rw [List.length_map, hspl, htl] at hrun
      have c73 := (cell_of_row _ _ 73 _ _ _ hg).trans (h_have true (s1.n : Int) (C : Int) hH1 hB1)
      have HRUN := Lib.hid hrun
      have HG := Lib.hid hg
      have HGR := Lib.hid hgr
      have HOK1 := Lib.hid hok1
      have HNE1 := Lib.hid hne
      have HSEE := Lib.hid hsee
      have HHM := Lib.hid hm
      have HYL := Lib.hid hyl
      have HY0 := Lib.hid hys0
      have HCELL := Lib.hid hcell
      have HCM := Lib.hid hcm
      have hn0 : (s1.n : Int) < 64 := by omega
      have hn00 : (0 : Int) ≤ s1.n := by omega
      have hyb : (ys.length : Int) ≤ 1152921504606846976 := by omega
      have hy0 : (0 : Int) < ys.length := by omega
      clear hrun hg hgr hok1 hne hsee hm hyl hys0 hcell hspl hsee' hcm
      have hsl := arr_from g 9 s1.n hn1
      obtain ⟨Z, hZ⟩ : ∃ Z : Addr, Z = if cap = m then ⟨b, o, none⟩ else ⟨b, o + m, none⟩ := ⟨_, rfl⟩
      have hcut := sl_from b o ys.length cap m hm2
      rw [← hZ] at hcut
      have HZ := Lib.hid hZ
      clear hZ
      go_wp2_with fail
      go_region_law (refine step_copy_run rfl (.tmp 25) (.tmp 26) 37 37 rfl rfl rfl rfl HRUN.out ?_)
      generalize hW1 : wr.drew.setRow g (hcells true s1.H (spl s1.B s1.n (List.take m ys)) ↑s1.n ↑C) = W1
      have hgW : W1.heap[g]? = some (.cells (hcells true s1.H (spl s1.B s1.n (ys.take m)) s1.n C) 129 (0, 0)) := by rw [← hW1]; exact setRow_heap _ _ _ _ _ _ HG.out
      have hgrW : wr.grownBy W1 (some g) := by
        rw [← hW1]
        exact ⟨rfl, rfl, rfl, by simp, fun j _ hj => setRow_other _ g j _ (by intro e; exact hj (by rw [e]))⟩
      have hB2 : (spl s1.B s1.n (ys.take m)).length = 64 := by rw [spl_len _ _ _ (by rw [htl, hB1]; exact hm3), hB1]
      have d73 := (cell_of_row _ _ 73 _ _ _ hgW).trans (h_have true (s1.n : Int) (C : Int) hH1 hB2)
      have g73 := frozen_of_row W1 g 73 _ 129 hgW
      have HGW := Lib.hid hgW
      have HGRW := Lib.hid hgrW
      clear hW1 hgW hgrW c73 hsl
      have hm0 : (0 : Int) ≤ m := by omega
      have hmi : (s1.n : Int) + m ≤ 64 := by omega
      by_cases hfull : s1.n + m = 64
      · have hf2 : ((s1.n : Int) + m) = 64 := by omega
        have i40 : (Tryd.prog.info? 127).map (·.size) = some 8 := by kernel_rfl
        have i41 : (Tryd.prog.info? 92).map (·.size) = some 64 := by kernel_rfl
        have HI40 := Lib.hid i40
        have HI41 := Lib.hid i41
        clear i40 i41
        go_wp2_with fail
        have hgr2 : wr.grownBy (W1.setCell ⟨g, 73, none⟩ (.int .i64 64)) (some g) :=
          HGRW.out.trans ⟨rfl, rfl, rfl, by simp, fun j _ hj => heap_setCell_other _ _ _ _ (by simp; intro e; exact hj (by rw [e]))⟩
        have hg2 : (W1.setCell ⟨g, 73, none⟩ (.int .i64 64)).heap[g]? = some (.cells (hcells true s1.H (spl s1.B s1.n (ys.take m)) 64 C) 129 (0, 0)) := by
          rw [heap_setCell_same _ _ _ _ _ _ HGW.out, hset_have true _ _ _ hH1 hB2]
        have hgl2 : Glob (W1.setCell ⟨g, 73, none⟩ (.int .i64 64)) := (HGL.out.grown (HGR.out.trans hgr2) (fun j e => by rw [← Option.some.inj e]; exact h2))
        generalize hW2 : W1.setCell ⟨g, 73, none⟩ (.int .i64 64) = W2 at hgr2 hg2 hgl2 ⊢
        have HGR2 := Lib.hid hgr2
        have HG2 := Lib.hid hg2
        have HGL2 := Lib.hid hgl2
        clear hgr2 hg2 hgl2 hW2 d73 g73
        have hbB : Byt (spl s1.B s1.n (ys.take m)) := spl_byt hBb1 (hbb.take m)
        have hch := puts_chunk (ys.take m) s1 hB1 hn1 (by intro e; rw [e] at htl; simp at htl; omega) (by rw [htl]; exact hm3)
        rw [htl, if_pos hfull] at hch
        have HCH := Lib.hid hch
        clear hch
        generalize spl s1.B s1.n (ys.take m) = BB at *
        have rH : W2.drew.rangeAt g 1 (ucells s1.H).toList := range_H hH1 HG2.out
        have rB : W2.drew.rangeAt g 9 (bcells BB).toList := range_B hH1 hB2 HG2.out
        have lH : (Tryd.prog.info? 127).map (·.size) = some (ucells s1.H).toList.length := by rw [HI40.out]; simp [ucells, hH1]
        have lB : (Tryd.prog.info? 92).map (·.size) = some (bcells BB).toList.length := by rw [HI41.out]; simp [bcells, hB2]
        have TK := Lib.hid (takes s1.H hH1 hHu1 BB hB2 hbB W2.drew ⟨HGL2.out.1, HGL2.out.2⟩)
        have hcl := comp_len s1.H BB
        have hu3 : (Tryd.prog.info? 127).map (·.size) = some (ucells (comp s1.H BB)).size := by rw [HI40.out]; simp [ucells, hcl]
        have hfit3 : 1 + (ucells (comp s1.H BB)).size ≤ (hcells true s1.H BB 64 C).size := by
          have e1 : (hcells true s1.H BB 64 C).size = 75 := by rw [hcells_eq]; simp [hlist, hH1, hB2]
          have e2 : (ucells (comp s1.H BB)).size = 8 := by simp [ucells, hcl]
          omega
        have hone3 : ∀ z ∈ (ucells (comp s1.H BB)).toList, z.oneCell' = true := fun z hz => by
          have hz' : z ∈ (comp s1.H BB).map (Value.int .u32) := by simpa [ucells] using hz
          obtain ⟨_, _, rfl⟩ := List.mem_map.1 hz'
          rfl
        have RH := Lib.hid rH
        have RB := Lib.hid rB
        have LH := Lib.hid lH
        have LB := Lib.hid lB
        have HU3 := Lib.hid hu3
        have HFIT3 := Lib.hid hfit3
        have HONE3 := Lib.hid hone3
        have HSPL := Lib.hid (hspl_H true 64 C (B := BB) hH1 (comp s1.H BB) hcl)
        clear rH rB lH lB hu3 hfit3 hone3 hcl
        refine wp_region_any (by kernel_rfl) ?_
        change wpAny _ _ _ _ _ _ _ (World.drew _)
        refine' wpAny_take (i := 0) ?h1x0 ?hsx0 ?hfx0 ?hrx0 ?hQx0 (Or.inl ⟨?hwx0, ?hyx0⟩) ?restx0
        case h1x0 => (simp only [List.getElem?_toArray, List.getElem?_cons_zero]; rfl)
        case hsx0 | hfx0 | hrx0 => kernel_rfl
        case hQx0 => exact fun _ _ _ h => h
        case hwx0 => rfl
        case hyx0 =>
          intro W
          go_simp
          try with_reducible rfl
        simp only [Act.put, List.setIfInBounds_toArray, List.set_cons_succ, List.set_cons_zero]
        refine' wpAny_take (i := 1) ?h1x1 ?hsx1 ?hfx1 ?hrx1 ?hQx1 (Or.inl ⟨?hwx1, ?hyx1⟩) ?restx1
        case h1x1 => (simp only [List.getElem?_toArray, List.getElem?_cons_succ, List.getElem?_cons_zero]; rfl)
        case hsx1 | hfx1 | hrx1 => kernel_rfl
        case hQx1 => exact fun _ _ _ h => h
        case hwx1 => rfl
        case hyx1 =>
          intro W
          go_simp
          try with_reducible rfl
        simp only [Act.put, List.setIfInBounds_toArray, List.set_cons_succ, List.set_cons_zero]
        refine' wpAny_take (i := 2) ?h1x2 ?hsx2 ?hfx2 ?hrx2 ?hQx2 (Or.inl ⟨?hwx2, ?hyx2⟩) ?restx2
        case h1x2 => (simp only [List.getElem?_toArray, List.getElem?_cons_succ, List.getElem?_cons_zero]; rfl)
        case hsx2 | hfx2 | hrx2 => kernel_rfl
        case hQx2 => exact fun _ _ _ h => h
        case hwx2 => rfl
        case hyx2 =>
          intro W
          go_simp
          try with_reducible rfl
        simp only [Act.put, List.setIfInBounds_toArray, List.set_cons_succ, List.set_cons_zero]
        refine' wpAny_take (i := 3) ?h1x3 ?hsx3 ?hfx3 ?hrx3 ?hQx3 (Or.inl ⟨?hwx3, ?hyx3⟩) ?restx3
        case h1x3 => (simp only [List.getElem?_toArray, List.getElem?_cons_succ, List.getElem?_cons_zero]; rfl)
        case hsx3 | hfx3 | hrx3 => kernel_rfl
        case hQx3 => exact fun _ _ _ h => h
        case hwx3 => rfl
        case hyx3 =>
          intro W
          go_simp
          try with_reducible rfl
        simp only [Act.put, List.setIfInBounds_toArray, List.set_cons_succ, List.set_cons_zero]
        refine' wpAny_take (i := 5) ?h1x5 ?hsx5 ?hfx5 ?hrx5 ?hQx5 (Or.inl ⟨?hwx5, ?hyx5⟩) ?restx5
        case h1x5 => (simp only [List.getElem?_toArray, List.getElem?_cons_succ, List.getElem?_cons_zero]; rfl)
        case hsx5 | hfx5 | hrx5 => kernel_rfl
        case hQx5 => exact fun _ _ _ h => h
        case hwx5 => rfl
        case hyx5 =>
          intro W
          go_simp
          try with_reducible rfl
        simp only [Act.put, List.setIfInBounds_toArray, List.set_cons_succ, List.set_cons_zero]
        refine' wpAny_take (i := 6) ?h1x6 ?hsx6 ?hfx6 ?hrx6 ?hQx6 (Or.inl ⟨?hwx6, ?hyx6⟩) ?restx6
        case h1x6 => (simp only [List.getElem?_toArray, List.getElem?_cons_succ, List.getElem?_cons_zero]; rfl)
        case hsx6 | hfx6 | hrx6 => kernel_rfl
        case hQx6 => exact fun _ _ _ h => h
        case hwx6 => rfl
        case hyx6 =>
          intro W
          go_simp
          try with_reducible rfl
        simp only [Act.put, List.setIfInBounds_toArray, List.set_cons_succ, List.set_cons_zero]
        refine' wpAny_take (i := 7) ?h1x7 ?hsx7 ?hfx7 ?hrx7 ?hQx7 (Or.inl ⟨?hwx7, ?hyx7⟩) ?restx7
        case h1x7 => (simp only [List.getElem?_toArray, List.getElem?_cons_succ, List.getElem?_cons_zero]; rfl)
        case hsx7 | hfx7 | hrx7 => kernel_rfl
        case hQx7 => exact fun _ _ _ h => h
        case hwx7 => rfl
        case hyx7 =>
          intro W
          go_simp
          try with_reducible rfl
        simp only [Act.put, List.setIfInBounds_toArray, List.set_cons_succ, List.set_cons_zero]
        refine wpAny_ready (rs := [4, 8]) (by kernel_rfl) (by simp) ?_
        refine' AllReady.cons ?hoc4a (fun K hK => ?stc4a) ?more4a
        case hoc4a => (simp only [List.getElem?_toArray, List.getElem?_cons_succ, List.getElem?_cons_zero]; rfl)
        case stc4a =>
          rw [if_pos (by rfl)]
          refine wp_load_mid 127 (.tmp 47) rfl g 1 rfl (ucells s1.H).toList _ RH.out Tryd.underlying127 rfl LH.out ?_
          refine hK _ _ ?_
          clear hK K
          simp only [Act.put, List.setIfInBounds_toArray, List.set_cons_succ, List.set_cons_zero]
          refine wpAny_ready (rs := [8]) (by kernel_rfl) (by simp) ?_
          refine' AllReady.cons ?hoc8b (fun K hK => ?stc8b) ?more8b
          case hoc8b => (simp only [List.getElem?_toArray, List.getElem?_cons_succ, List.getElem?_cons_zero]; rfl)
          case stc8b =>
            rw [if_pos (by rfl)]
            refine wp_load_mid 92 (.tmp 51) rfl g 9 rfl (bcells BB).toList _ RB.out Tryd.underlying92 rfl LB.out ?_
            refine hK _ _ ?_
            clear hK K
            simp only [Act.put, List.setIfInBounds_toArray, List.set_cons_succ, List.set_cons_zero]
            refine wpAny_ready (rs := [9]) (by kernel_rfl) (by simp) ?_
            refine' AllReady.cons ?hoc9b (fun K hK => ?stc9b) AllReady.nil
            case hoc9b => (simp only [List.getElem?_toArray, List.getElem?_cons_succ, List.getElem?_cons_zero]; rfl)
            go_simp
            refine (TK.out).mono ?_
            rintro e w3 ⟨rfl, hb⟩
            go_wp2_with fail
            try simp only [Act.put, List.setIfInBounds_toArray, List.set_cons_zero, List.set_cons_succ]
            refine' wpAny_take (i := 10) ?h1x10b ?hsx10b ?hfx10b ?hrx10b ?hQx10b (Or.inl ⟨?hwx10b, ?hyx10b⟩) ?restx10b
            case h1x10b => (simp only [List.getElem?_toArray, List.getElem?_cons_succ, List.getElem?_cons_zero]; rfl)
            case hsx10b | hfx10b | hrx10b => kernel_rfl
            case hQx10b => exact fun _ _ _ h => h
            case hwx10b => rfl
            case hyx10b =>
              intro W
              go_simp
              try with_reducible rfl
            simp only [Act.put, List.setIfInBounds_toArray, List.set_cons_succ, List.set_cons_zero]
            refine' wpAny_take (i := 11) ?h1x11b ?hsx11b ?hfx11b ?hrx11b ?hQx11b (Or.inl ⟨?hwx11b, ?hyx11b⟩) ?restx11b
            case h1x11b => (simp only [List.getElem?_toArray, List.getElem?_cons_succ, List.getElem?_cons_zero]; rfl)
            case hsx11b | hfx11b | hrx11b => kernel_rfl
            case hQx11b => exact fun _ _ _ h => h
            case hwx11b => rfl
            case hyx11b =>
              intro W
              go_simp
              try with_reducible rfl
            simp only [Act.put, List.setIfInBounds_toArray, List.set_cons_succ, List.set_cons_zero]
            refine wpAny_ready (rs := [12]) (by kernel_rfl) (by simp) ?_
            refine' AllReady.cons ?hoc12b (fun K hK => ?stc12b) AllReady.nil
            case hoc12b => (simp only [List.getElem?_toArray, List.getElem?_cons_succ, List.getElem?_cons_zero]; rfl)
            rw [if_pos (by rfl)]
            have hg3 : w3.heap[g]? = some (.cells (hcells true s1.H BB 64 C) 129 (0, 0)) := by rw [hb.block _ (blk_lt HG2.out)]; exact HG2.out
            refine wp_store_at 127 (.tmp 55) (.tmp 53) rfl g 1 (ucells (comp s1.H BB)) rfl rfl 129 _ hg3 HU3.out HFIT3.out HONE3.out ?_
            rw [HSPL.out]
            have hg4 : (w3.setRow g (hcells true (comp s1.H BB) BB 64 C)).heap[g]? = some (.cells (hcells true (comp s1.H BB) BB 64 C) 129 (0, 0)) := setRow_heap _ _ _ _ _ _ hg3
            have hgr4 : W2.grownBy (w3.setRow g (hcells true (comp s1.H BB) BB 64 C)) (some g) :=
              ⟨hb.os, hb.tape, hb.output, by have := hb.size; simpa using this, fun j hj hne => by rw [setRow_other _ g j _ (by intro e; exact hne (by rw [e]))]; exact hb.block j hj⟩
            generalize hw4 : w3.setRow g (hcells true (comp s1.H BB) BB 64 C) = w4 at hg4 hgr4 ⊢
            have HG4 := Lib.hid hg4
            have HGR4 := Lib.hid hgr4
            have f4 := frozen_of_row w4 g 73 _ 129 hg4
            have c4 := (cell_of_row _ _ 73 _ _ _ hg4).trans (h_have true 64 (C : Int) (comp_len s1.H BB) hB2)
            clear hg4 hgr4 hw4 hg3 hb
            refine hK _ _ ?_
            clear hK K
            simp only [Act.put]
            refine wpAny_done (by kernel_rfl) ?_ _
            go_wp2_with fail
            go_roundw
            case rel =>
              have hP := HPK.out m hm2
              have hgr5 : wr.grownBy (w4.setCell ⟨g, 73, none⟩ (.int .i64 0)) (some g) :=
                (HGR2.out.trans HGR4.out).trans ⟨rfl, rfl, rfl, by simp, fun j _ hj => heap_setCell_other _ _ _ _ (by simp; intro e; exact hj (by rw [e]))⟩
              refine ⟨k + m, by have := HYL.out; omega, ?_, ?_, ⟨?_, ?_⟩, HGR.out.trans hgr5⟩
              · rw [hP.2, HZ.out]
                exact (sees_cut HSEE.out HCM.out hlc hm2 HCELL.out).grown hgr5 (fun j e => by rw [cut_block]; intro e2; rw [← e] at e2; exact hbg (Option.some.inj e2))
              · intro _; rw [HZ.out, cut_block]; intro e2; exact hbg (Option.some.inj e2)
              · rw [hP.1]; exact puts_ok _ _ HOK1.out (hbb.take m)
              · rw [hP.1, HCH.out, heap_setCell_same _ _ _ _ _ _ HG4.out, hset_have true _ _ _ (comp_len _ _) hB2]
                rfl
            case measure => exact (Nat.sub_lt hylen hm1 : ys.length - m < ys.length)
          case more8b => exact AllReady.nil
        case more4a =>
          refine' AllReady.cons ?hoc8c (fun K hK => ?stc8c) ?more8c
          case hoc8c => (simp only [List.getElem?_toArray, List.getElem?_cons_succ, List.getElem?_cons_zero]; rfl)
          case stc8c =>
            rw [if_pos (by rfl)]
            refine wp_load_mid 92 (.tmp 51) rfl g 9 rfl (bcells BB).toList _ RB.out Tryd.underlying92 rfl LB.out ?_
            refine hK _ _ ?_
            clear hK K
            simp only [Act.put, List.setIfInBounds_toArray, List.set_cons_succ, List.set_cons_zero]
            refine wpAny_ready (rs := [4]) (by kernel_rfl) (by simp) ?_
            refine' AllReady.cons ?hoc4d (fun K hK => ?stc4d) ?more4d
            case hoc4d => (simp only [List.getElem?_toArray, List.getElem?_cons_succ, List.getElem?_cons_zero]; rfl)
            case stc4d =>
              rw [if_pos (by rfl)]
              refine wp_load_mid 127 (.tmp 47) rfl g 1 rfl (ucells s1.H).toList _ RH.out Tryd.underlying127 rfl LH.out ?_
              refine hK _ _ ?_
              clear hK K
              simp only [Act.put, List.setIfInBounds_toArray, List.set_cons_succ, List.set_cons_zero]
              refine wpAny_ready (rs := [9]) (by kernel_rfl) (by simp) ?_
              refine' AllReady.cons ?hoc9d (fun K hK => ?stc9d) AllReady.nil
              case hoc9d => (simp only [List.getElem?_toArray, List.getElem?_cons_succ, List.getElem?_cons_zero]; rfl)
              go_simp
              refine (TK.out).mono ?_
              rintro e w3 ⟨rfl, hb⟩
              go_wp2_with fail
              try simp only [Act.put, List.setIfInBounds_toArray, List.set_cons_zero, List.set_cons_succ]
              refine' wpAny_take (i := 10) ?h1x10d ?hsx10d ?hfx10d ?hrx10d ?hQx10d (Or.inl ⟨?hwx10d, ?hyx10d⟩) ?restx10d
              case h1x10d => (simp only [List.getElem?_toArray, List.getElem?_cons_succ, List.getElem?_cons_zero]; rfl)
              case hsx10d | hfx10d | hrx10d => kernel_rfl
              case hQx10d => exact fun _ _ _ h => h
              case hwx10d => rfl
              case hyx10d =>
                intro W
                go_simp
                try with_reducible rfl
              simp only [Act.put, List.setIfInBounds_toArray, List.set_cons_succ, List.set_cons_zero]
              refine' wpAny_take (i := 11) ?h1x11d ?hsx11d ?hfx11d ?hrx11d ?hQx11d (Or.inl ⟨?hwx11d, ?hyx11d⟩) ?restx11d
              case h1x11d => (simp only [List.getElem?_toArray, List.getElem?_cons_succ, List.getElem?_cons_zero]; rfl)
              case hsx11d | hfx11d | hrx11d => kernel_rfl
              case hQx11d => exact fun _ _ _ h => h
              case hwx11d => rfl
              case hyx11d =>
                intro W
                go_simp
                try with_reducible rfl
              simp only [Act.put, List.setIfInBounds_toArray, List.set_cons_succ, List.set_cons_zero]
              refine wpAny_ready (rs := [12]) (by kernel_rfl) (by simp) ?_
              refine' AllReady.cons ?hoc12d (fun K hK => ?stc12d) AllReady.nil
              case hoc12d => (simp only [List.getElem?_toArray, List.getElem?_cons_succ, List.getElem?_cons_zero]; rfl)
              rw [if_pos (by rfl)]
              have hg3 : w3.heap[g]? = some (.cells (hcells true s1.H BB 64 C) 129 (0, 0)) := by rw [hb.block _ (blk_lt HG2.out)]; exact HG2.out
              refine wp_store_at 127 (.tmp 55) (.tmp 53) rfl g 1 (ucells (comp s1.H BB)) rfl rfl 129 _ hg3 HU3.out HFIT3.out HONE3.out ?_
              rw [HSPL.out]
              have hg4 : (w3.setRow g (hcells true (comp s1.H BB) BB 64 C)).heap[g]? = some (.cells (hcells true (comp s1.H BB) BB 64 C) 129 (0, 0)) := setRow_heap _ _ _ _ _ _ hg3
              have hgr4 : W2.grownBy (w3.setRow g (hcells true (comp s1.H BB) BB 64 C)) (some g) :=
                ⟨hb.os, hb.tape, hb.output, by have := hb.size; simpa using this, fun j hj hne => by rw [setRow_other _ g j _ (by intro e; exact hne (by rw [e]))]; exact hb.block j hj⟩
              generalize hw4 : w3.setRow g (hcells true (comp s1.H BB) BB 64 C) = w4 at hg4 hgr4 ⊢
              have HG4 := Lib.hid hg4
              have HGR4 := Lib.hid hgr4
              have f4 := frozen_of_row w4 g 73 _ 129 hg4
              have c4 := (cell_of_row _ _ 73 _ _ _ hg4).trans (h_have true 64 (C : Int) (comp_len s1.H BB) hB2)
              clear hg4 hgr4 hw4 hg3 hb
              refine hK _ _ ?_
              clear hK K
              simp only [Act.put]
              refine wpAny_done (by kernel_rfl) ?_ _
              go_wp2_with fail
              go_roundw
              case rel =>
                have hP := HPK.out m hm2
                have hgr5 : wr.grownBy (w4.setCell ⟨g, 73, none⟩ (.int .i64 0)) (some g) :=
                  (HGR2.out.trans HGR4.out).trans ⟨rfl, rfl, rfl, by simp, fun j _ hj => heap_setCell_other _ _ _ _ (by simp; intro e; exact hj (by rw [e]))⟩
                refine ⟨k + m, by have := HYL.out; omega, ?_, ?_, ⟨?_, ?_⟩, HGR.out.trans hgr5⟩
                · rw [hP.2, HZ.out]
                  exact (sees_cut HSEE.out HCM.out hlc hm2 HCELL.out).grown hgr5 (fun j e => by rw [cut_block]; intro e2; rw [← e] at e2; exact hbg (Option.some.inj e2))
                · intro _; rw [HZ.out, cut_block]; intro e2; exact hbg (Option.some.inj e2)
                · rw [hP.1]; exact puts_ok _ _ HOK1.out (hbb.take m)
                · rw [hP.1, HCH.out, heap_setCell_same _ _ _ _ _ _ HG4.out, hset_have true _ _ _ (comp_len _ _) hB2]
                  rfl
              case measure => exact (Nat.sub_lt hylen hm1 : ys.length - m < ys.length)
            case more4d => exact AllReady.nil
          case more8c => exact AllReady.nil
      · have hf2 : ((s1.n : Int) + m == 64) = false := by simp; omega
        have hf3 : ¬ ((s1.n : Int) + m = 64) := by omega
        have hmy : m = ys.length := by have := HHM.out; omega
        have HMY := Lib.hid hmy
        clear hmy
        go_wp2_with fail
        go_roundw
        case rel =>
          have hP := HPK.out m hm2
          have hgr2 : wr.grownBy (W1.setCell ⟨g, 73, none⟩ (.int .i64 ((s1.n : Int) + m))) (some g) :=
            HGRW.out.trans ⟨rfl, rfl, rfl, by simp, fun j _ hj => heap_setCell_other _ _ _ _ (by simp; intro e; exact hj (by rw [e]))⟩
          refine ⟨k + m, by have := HYL.out; omega, ?_, ?_, ⟨?_, ?_⟩, HGR.out.trans hgr2⟩
          · rw [hP.2, HZ.out]
            exact (sees_cut HSEE.out HCM.out hlc hm2 HCELL.out).grown hgr2 (fun j e => by rw [cut_block]; intro e2; rw [← e] at e2; exact hbg (Option.some.inj e2))
          · intro _; rw [HZ.out, cut_block]; intro e2; exact hbg (Option.some.inj e2)
          · rw [hP.1]; exact puts_ok _ _ HOK1.out (hbb.take m)
          · have hch := puts_chunk (ys.take m) s1 hB1 hn1 (by intro e; rw [e] at htl; simp at htl; omega) (by rw [htl]; exact hm3)
            rw [htl, if_neg hfull] at hch
            rw [hP.1, hch, heap_setCell_same _ _ _ _ _ _ HGW.out, hset_have true _ _ _ hH1 hB2]
            simp
        case measure => exact (Nat.sub_lt hylen hm1 : ys.length - m < ys.length)
    · have hkl : k = xs.length := by omega
      subst hkl
      have hnil : xs.drop xs.length = [] := List.drop_length
      rw [hnil] at hsee'
      obtain ⟨x, cp, rfl⟩ : ∃ x cp, u1 = .slice x 0 cp := by
        rcases hsee' with ⟨e, _⟩ | ⟨a, cp, e, _, _⟩ | ⟨_, _, _, _, e, _⟩
        · exact ⟨_, _, e⟩
        · exact ⟨_, _, e⟩
        · exact absurd rfl e
      have HEND : Hid (HSat wr g (puts s xs) (C : Int)) := by
        show HSat _ _ _ _
        rw [List.take_length] at hok1 hg
        exact ⟨hok1, hg⟩
      have HGR := Lib.hid hgr
      clear hsee hsee' hg hgr hok1 hnil
      go_wp2_with fail
      go_end0
      refine ⟨rfl, ?_, HGR.out⟩
      rw [HC0.out]; exact HEND.out
end Go.Proofs.YtjdamlmoegippaaDoor.hl
