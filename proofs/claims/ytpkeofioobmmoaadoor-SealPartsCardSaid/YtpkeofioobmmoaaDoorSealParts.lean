/-
  For all master keys, numbers, stamps, bytes, places and bytes the law SealParts of package casematelaw22 returns true, and they read afterwards as before: where blocks are unlike in one part of sixteen bytes alone, what is sealed with one stamp is unlike there alone. Condition: none.
-/
import Derived.Test.YtpkeofioobmmoaaDoorKX
import Derived.Test.YtpkeofioobmmoaaDoorAeSE
import Derived.Test.YtpkeofioobmmoaaDoorShLaid
import Derived.Deep.QuietTactic
import Derived.BigQuiet
namespace Go.Proofs.YtpkeofioobmmoaaDoor.sealParts
open Go.ChangeShapes Go.WideShapes Go.ChangeAt Go.RowKit Go.Proofs.YtpkeofioobmmoaaDoor.ae
/-- The parts of a text are its blocks. -/
theorem part_blk {b : List Nat} {k : Nat} (h : 16 * k + 16 ≤ b.length) : (b.drop (16 * k)).take 16 = blk b k := by
  have l : ((b.drop (16 * k)).take 16).length = 16 := by rw [List.length_take, List.length_drop]; omega
  refine bts_ext' l (tab_len _ _) fun i hi => ?_
  rw [blk, tab_at _ _ _ hi]
  simp [at_, List.getD, hi]
theorem sl_part (b o l cap i j : Nat) (hij : i < j) (hj : j ≤ l) (hc : l ≤ cap) (W : World) : (Instr.slice 49 (.slice (some ⟨b, o, none⟩) l cap) (some (.int .i64 i)) (some (.int .i64 j)) none).run Tryd.prog W = .ok (.slice (some ⟨b, o + i, none⟩) (j - i) (cap - i)) W := by
  rw [run_slice_lh W 49 (some ⟨b, o, none⟩) l cap (by kernel_rfl) .i64 .i64 i j (by omega) (by omega) (by omega), size5']
  have e : ¬ cap = i := by omega
  simp [Result.andThen, sliced, e, addr_add]
theorem xor_ne {a z : Nat} (h : z ≠ 0) : Nat.xor a z ≠ a := fun e => h (by
  have h2 : Nat.xor a (Nat.xor a z) = Nat.xor a a := by rw [e]
  rw [← xa, xx, zx] at h2
  exact h2)
/-- The parts that a turned byte leaves alone. -/
theorem blk_turned {P : List Nat} {p z : Nat} (hp : p < P.length) (hz : z ≠ 0) (k : Nat) : blk P k = blk (P.set p (Nat.xor (at_ P p) z)) k ↔ k ≠ p / 16 := by
  have hat : ∀ i, at_ (P.set p (Nat.xor (at_ P p) z)) i = if i = p then Nat.xor (at_ P p) z else at_ P i := fun i => by
    unfold at_
    simp only [List.getD, List.getElem?_set]
    by_cases h : i = p
    · subst h; simp [hp]
    · rw [if_neg (fun e => h e.symm), if_neg h]
  constructor
  · intro h e
    have h2 : at_ (blk P k) (p % 16) = at_ (blk (P.set p (Nat.xor (at_ P p) z)) k) (p % 16) := by rw [← h]
    rw [blk, blk, tab_at _ _ _ (by omega), tab_at _ _ _ (by omega), hat, if_pos (by omega), show 16 * k + p % 16 = p by omega] at h2
    exact xor_ne hz h2.symm
  · intro h
    refine bts_ext' (tab_len _ _) (tab_len _ _) fun i hi => ?_
    rw [blk, blk, tab_at _ _ _ hi, tab_at _ _ _ hi, hat, if_neg (by omega)]
set_option maxRecDepth 100000 in
set_option maxHeartbeats 1000000 in
theorem walkBig (m : List Nat) (n s : Nat) (x : Option Addr) (L cap : Nat) (p z : Int) (w : World) (hG : sh.Glob w) (h : (512 : Int) < L ∨ (¬ (512 : Int) < L ∧ p < 0) ∨ (¬ (512 : Int) < L ∧ ¬ p < 0 ∧ 511 < p) ∨ (¬ (512 : Int) < L ∧ ¬ p < 0 ∧ ¬ 511 < p ∧ (z == 0) = true)) :
    Calls Tryd.prog 11 #[.agg (ncells m), .int .u64 n, .int .u64 s, .slice x L cap, .int .i64 p, .int .u8 z] w fun e w' => e = .returned (.bool true) ∧ Below w.heap.size w w' := by
  have HB : Hid (Below w.heap.size w (w.alloc (.cells (ncells m) 38))) := (Below.refl _ _).alloc (Nat.le_refl _) _
  have HG := Lib.hid (hG.below HB.out hG.lt)
  clear hG
  rcases h with t0 | ⟨t0, t1⟩ | ⟨t0, t1, t2⟩ | ⟨t0, t1, t2, t3⟩
  all_goals
    go_enter Tryd.func11, Tryd.ntmps11
    go_wp2_with fail
    refine (alive22 _ HG.out).mono ?_
    rintro e w1 ⟨rfl, hb⟩
    have B1 := Lib.hid (HB.out.trans (hb.mono HB.out.size))
    clear hb
    go_wp2_with fail
    go_ret
    exact ⟨rfl, B1.out⟩
set_option maxRecDepth 100000 in
set_option maxHeartbeats 8000000 in
theorem walk (m b : List Nat) (hm : ae.Bts 32 m) (n s : Nat) (hn : n ≤ 18446744073709551615) (x : Option Addr) (L cap : Nat) (hL : L = b.length) (hl : L ≤ 512) (p z : Nat) (hp : p ≤ 511) (hz0 : z ≠ 0) (hz : z < 256) (w : World) (hs : ae.Sees w (.slice x L cap) b) (hG : sh.Glob w) :
    Calls Tryd.prog 11 #[.agg (ncells m), .int .u64 n, .int .u64 s, .slice x L cap, .int .i64 p, .int .u8 z] w fun e w' => e = .returned (.bool true) ∧ Below w.heap.size w w' := by
  have t0 : ¬ (512 : Int) < L := by omega
  have t1 : ¬ (p : Int) < 0 := by omega
  have t2 : ¬ (511 : Int) < p := by omega
  have t3 : ((z : Int) == 0) = false := by simp; omega
  have AL : Hid (∀ W : World, sh.Glob W → Calls Tryd.prog 21 #[] W fun e w' => e = .returned (.bool true) ∧ Below W.heap.size W w') := fun W hg => alive22 W hg
  have BL : Hid (∀ W : World, ae.Sees W (.slice x L cap) b → Calls Tryd.prog 26 #[.slice x L cap] W (BlkP W b)) := fun W h => blockC b x L cap W h hL hl
  have SR : ∀ (W : World) (q : Nat) (J : List Nat), ae.Byt J → J.length = 512 → W.heap[q]? = some (.cells (ncells J) 5 (0, 0)) → ae.Sees W (.slice (some ⟨q, 0, none⟩) 512 512) J := fun W q J hJ hl hq => sees_row W q J hJ (by rw [hl]; decide) hq 512 hl.symm
  have yP : ae.Byt (padN b) := padN_byt hs.1
  have lP : (padN b).length = 512 := padN_len (by omega)
  have hxl : Nat.xor (at_ (padN b) p) z < 256 := xor_lt (yP.at p) hz
  have yQ : ae.Byt ((padN b).set p (Nat.xor (at_ (padN b) p) z)) := fun y hy => by
    rcases List.mem_or_eq_of_mem_set hy with h | h
    · exact yP y h
    · rw [h]; exact hxl
  have lQ : ((padN b).set p (Nat.xor (at_ (padN b) p) z)).length = 512 := by rw [List.length_set]; exact lP
  have S1 : Hid (∀ (W : World) (q : Nat), sh.Glob W → W.heap[q]? = some (.cells (ncells (padN b)) 5 (0, 0)) → Calls Tryd.prog 22 #[.agg (ncells m), .int .u64 n, .int .u64 s, .slice (some ⟨q, 0, none⟩) 512 512] W (SecP W 512 (sealN m n s (padN b)))) :=
    fun W q hg h => sealC m _ hm n s hn _ 512 W (SR W q _ yP lP h) lP.symm hg
  have S2 : Hid (∀ (W : World) (q : Nat), sh.Glob W → W.heap[q]? = some (.cells (ncells ((padN b).set p (Nat.xor (at_ (padN b) p) z))) 5 (0, 0)) → Calls Tryd.prog 22 #[.agg (ncells m), .int .u64 n, .int .u64 s, .slice (some ⟨q, 0, none⟩) 512 512] W (SecP W 512 (sealN m n s ((padN b).set p (Nat.xor (at_ (padN b) p) z))))) :=
    fun W q hg h => sealC m _ hm n s hn _ 512 W (SR W q _ yQ lQ h) lQ.symm hg
  have LIKE : Hid (∀ k, k < 32 → (decide (blk (sealN m n s (padN b)) k = blk (sealN m n s ((padN b).set p (Nat.xor (at_ (padN b) p) z))) k) = decide (k ≠ p / 16))) := fun k hk => by
    rw [decide_eq_decide]
    exact (sct_like (enc_bts (vtwo_bts n hm) (twk_bts s)) yP yQ (fun _ h => enc_bts (vone_bts n hm) h) (fun _ h => dec_enc (vone_bts n hm) h) hk).trans (blk_turned (by rw [lP]; omega) hz0 k)
  have Y1 := Lib.hid (sealN_byt hm n s yP)
  have Y2 := Lib.hid (sealN_byt hm n s yQ)
  have L1 := Lib.hid (sealN_len m n s (padN b))
  have L2 := Lib.hid (sealN_len m n s ((padN b).set p (Nat.xor (at_ (padN b) p) z)))
  have NS : Hid ((ncells (padN b)).setIfInBounds p (.int .u8 (Nat.xor (at_ (padN b) p) z : Nat)) = ncells ((padN b).set p (Nat.xor (at_ (padN b) p) z))) := nset _ _ _
  have xr : bits .xor .u8 ((at_ (padN b) p : Nat) : Int) (z : Int) = ((Nat.xor (at_ (padN b) p) z : Nat) : Int) := xor8 _ _ (yP.at p) hz
  have XR := Lib.hid xr
  have AB := Lib.hid (yP.at p)
  have XL := Lib.hid hxl
  have CP : Hid (∀ (W : World) (q : Nat), W.heap[q]? = some (.cells (ncells (padN b)) 5 (0, 0)) → W.cell? ⟨q, p, none⟩ = some (.int .u8 (at_ (padN b) p : Nat))) := fun W q h => cell_at h lP (by omega)
  have LM := Lib.hid hm.1
  have G0 := Lib.hid (heap_alloc_new w (.cells (ncells m) 38))
  have HB : Hid (Below w.heap.size w (w.alloc (.cells (ncells m) 38))) := (Below.refl _ _).alloc (Nat.le_refl _) _
  have HG := Lib.hid (hG.below HB.out hG.lt)
  have HS := Lib.hid (hs.below HB.out)
  have BP : Hid (∀ W e w', BlkP W b e w' → ∃ q, e = .returned (.slice (some ⟨q, 0, none⟩) 512 512) ∧ W.heap.size ≤ q ∧ w'.heap[q]? = some (.cells (ncells (padN b)) 5 (0, 0)) ∧ Below W.heap.size W w') := fun _ _ _ h => h
  obtain ⟨a, ha⟩ : ∃ a, a = p / 16 := ⟨_, rfl⟩
  rw [← ha] at LIKE
  have hq1 : (p : Int) / 16 = (a : Int) := by omega
  have hq2 : (p : Int).tdiv 16 = (a : Int) := by rw [Int.tdiv_eq_ediv_of_nonneg (by omega)]; omega
  have hal : (a : Int) ≤ 31 := by omega
  have HA := Lib.hid ha
  have hw2 : Hid (2 ≤ w.heap.size) := hG.lt
  have HGw := Lib.hid hG
  clear hm hs hG hn hL hl SR yP lP yQ lQ hz0 hz hxl xr ha
  generalize sealN m n s (padN b) = J1 at S1 LIKE Y1 L1
  generalize sealN m n s ((padN b).set p (Nat.xor (at_ (padN b) p) z)) = J2 at S2 LIKE Y2 L2
  generalize (padN b).set p (Nat.xor (at_ (padN b) p) z) = Q at S2 NS
  generalize Nat.xor (at_ (padN b) p) z = xv at NS XR XL
  generalize at_ (padN b) p = pv at XR AB CP
  generalize padN b = P at S1 NS CP BP
  have hp0 : (0 : Int) ≤ p := by omega
  have hp1 : (p : Int) < 512 := by omega
  go_enter Tryd.func11, Tryd.ntmps11
  go_wp2_with fail
  refine (BL.out _ HS.out).mono ?_
  rintro e w1 hbp
  obtain ⟨q0, rfl, hq, hr, hb⟩ := BP.out _ _ _ hbp
  have G0 := Lib.hid ((hb.block _ (blk_lt G0.out)).trans G0.out)
  have HB := Lib.hid (HB.out.trans (hb.mono HB.out.size))
  have HG := Lib.hid (HG.out.below hb HG.out.lt)
  have HS := Lib.hid (HS.out.below hb)
  have R0 := Lib.hid hr
  have Qq0 := Lib.hid hq
  clear hq hr hb hbp
  have W1s : Hid (w.heap.size < w1.heap.size) := blk_lt G0.out
  go_wp2_with fail
  refine (BL.out _ HS.out).mono ?_
  rintro e w2 hbp
  obtain ⟨q1, rfl, hq, hr, hb⟩ := BP.out _ _ _ hbp
  have hne : q0 ≠ q1 := by have := blk_lt R0.out; omega
  have G0 := Lib.hid ((hb.block _ (blk_lt G0.out)).trans G0.out)
  have HB := Lib.hid (HB.out.trans (hb.mono HB.out.size))
  have HG := Lib.hid (HG.out.below hb HG.out.lt)
  have HS := Lib.hid (HS.out.below hb)
  have R0 := Lib.hid ((hb.block _ (blk_lt R0.out)).trans R0.out)
  have R1 := Lib.hid hr
  have Qq1 := Lib.hid hq
  clear hq hr hb hbp
  have hws : w.heap.size < q1 := by have h1 := Qq1.out; have h2 := W1s.out; omega
  have hcl := CP.out _ _ R1.out
  have hfr := frozen_of_row w2 q1 p _ 5 R1.out
  have xr := XR.out
  have ab := AB.out
  have xl := XL.out
  have HNE := Lib.hid hne
  have HWS := Lib.hid hws
  clear hne hws
  go_upto_region 6 with fail
  have r1 : (w2.setCell ⟨q1, p, none⟩ (.int .u8 (xv : Nat))).heap[q1]? = some (.cells (ncells Q) 5 (0, 0)) := by rw [heap_setCell_same _ _ _ _ _ _ R1.out, NS.out]
  have r0 : (w2.setCell ⟨q1, p, none⟩ (.int .u8 (xv : Nat))).heap[q0]? = some (.cells (ncells P) 5 (0, 0)) := by rw [heap_setCell_other _ _ _ _ (by have := HNE.out; simpa using this)]; exact R0.out
  have g0 : (w2.setCell ⟨q1, p, none⟩ (.int .u8 (xv : Nat))).heap[w.heap.size]? = some (.cells (ncells m) 38 (0, 0)) := by rw [heap_setCell_other _ _ _ _ (by have := HWS.out; simp; omega)]; exact G0.out
  have hb : Below w.heap.size w (w2.setCell ⟨q1, p, none⟩ (.int .u8 (xv : Nat))) := HB.out.setCell (by have := HWS.out; simp; omega) _
  have hg : sh.Glob (w2.setCell ⟨q1, p, none⟩ (.int .u8 (xv : Nat))) := HG.out.below (b := 2) ((Below.refl 2 w2).setCell (by have h1 := HWS.out; have h2 := hw2.out; simp; omega) _) (Nat.le_refl _)
  clear hcl hfr xr ab xl R0 R1 G0 HB HG HS BL BP CP NS XR AB XL
  generalize w2.setCell ⟨q1, p, none⟩ (.int .u8 (xv : Nat)) = w3 at r1 r0 g0 hb hg ⊢
  have R1 := Lib.hid r1
  have R0 := Lib.hid r0
  have G0 := Lib.hid g0
  have HB := Lib.hid hb
  have HG := Lib.hid hg
  clear r1 r0 g0 hb hg
  go_wp2_with (refine wpList_load_row rfl 38 (.tmp 6) rfl w.heap.size rfl 38 (ncells m) (0, 0) _ G0.out Tryd.underlying38 rfl (i23 LM.out) ?_)
  refine (S1.out _ _ HG.out R0.out).mono ?_
  rintro e w4 ⟨q2, rfl, hq, hr, hb⟩
  have G0 := Lib.hid ((hb.block _ (blk_lt G0.out)).trans G0.out)
  have HB := Lib.hid (HB.out.trans (hb.mono HB.out.size))
  have HG := Lib.hid (HG.out.below hb HG.out.lt)
  have R0 := Lib.hid ((hb.block _ (blk_lt R0.out)).trans R0.out)
  have R1 := Lib.hid ((hb.block _ (blk_lt R1.out)).trans R1.out)
  have U1 := Lib.hid hr
  clear hq hr
  clear hb S1 R0
  go_wp2_with (refine wpList_load_row rfl 38 (.tmp 6) rfl w.heap.size rfl 38 (ncells m) (0, 0) _ G0.out Tryd.underlying38 rfl (i23 LM.out) ?_)
  refine (S2.out _ _ HG.out R1.out).mono ?_
  rintro e w5 ⟨q3, rfl, hq, hr, hb⟩
  have G0 := Lib.hid ((hb.block _ (blk_lt G0.out)).trans G0.out)
  have HB := Lib.hid (HB.out.trans (hb.mono HB.out.size))
  have HG := Lib.hid (HG.out.below hb HG.out.lt)
  have R1 := Lib.hid ((hb.block _ (blk_lt R1.out)).trans R1.out)
  have U1 := Lib.hid ((hb.block _ (blk_lt U1.out)).trans U1.out)
  have U2 := Lib.hid hr
  have HW2 : Hid (2 ≤ w.heap.size) := hw2.out
  clear hq hr hb R1 S2 G0 hw2
  go_wp2_with fail
  go_loopw [19] (fun vi wr => ∃ k : Nat, k ≤ 32 ∧ vi = .int .i64 ((16 * k : Nat) : Int) ∧ wr.heap[q2]? = some (.cells (ncells J1) 5 (0, 0)) ∧ wr.heap[q3]? = some (.cells (ncells J2) 5 (0, 0)) ∧ Below w.heap.size w wr) (fun vi _ => 512 - (intOf vi).toNat)
  case atStart => exact ⟨0, by omega, rfl, U1.out, U2.out, HB.out⟩
  case round =>
    have HG0 : Hid (∀ wr, Below w.heap.size w wr → sh.Glob wr) := fun wr h => HGw.out.below h HW2.out
    clear U1 U2 HB HG HGw
    obtain ⟨k, hk, rfl, hr1, hr2, hbel⟩ := hrel
    by_cases hlt : k < 32
    · have ps : ∀ (W : World) (q : Nat) (l : List Nat), ae.Byt l → l.length = 512 → W.heap[q]? = some (.cells (ncells l) 5 (0, 0)) → (convert 49 9 (.slice (some ⟨q, 0 + 16 * k, none⟩) (16 * k + 16 - 16 * k) (512 - 16 * k))).run Tryd.prog W = .ok (.string (strN (blk l k))) W := fun W q l hl hll hq => by
        have := sees_part (w := W) (b := q) (o := 0) hl (fun i hi => by rw [Nat.zero_add]; exact cell_at hq hll (by rw [← hll]; exact hi)) (16 * k) 16 (by omega) (by omega) (512 - 16 * k) (by omega) (by unfold maxLen; omega)
        rw [part_blk (by omega)] at this
        rw [show 16 * k + 16 - 16 * k = 16 by omega]
        exact this.str
      have CVC := fun n => ps (wr.drewN n) q2 J1 Y1.out L1.out hr1
      have CVD := fun n => ps (wr.drewN n) q3 J2 Y2.out L2.out hr2
      have eJ : ((strN (blk J1 k)).toList == (strN (blk J2 k)).toList) = decide (k ≠ a) := by rw [← LIKE.out k hlt]; exact strN_eq (blk_bts Y1.out k).2 (blk_bts Y2.out k).2
      have eI : (((16 * k : Nat) : Int) != (a : Int) * 16) = decide (k ≠ a) := by
        rw [Bool.eq_iff_iff]; simp; omega
      obtain ⟨i, hi⟩ : ∃ i, i = 16 * k := ⟨_, rfl⟩
      have sC := sl_part q2 0 512 512 i (i + 16) (by omega) (by omega) (Nat.le_refl _)
      have sD := sl_part q3 0 512 512 i (i + 16) (by omega) (by omega) (Nat.le_refl _)
      rw [Nat.zero_add] at sC sD
      rw [← hi] at CVC CVD eI ⊢
      rw [Nat.zero_add] at CVC CVD
      obtain ⟨j, hj⟩ : ∃ j, j = i + 16 := ⟨_, rfl⟩
      rw [← hj] at CVC CVD sC sD
      have hij : (i : Int) + 16 = (j : Int) := by omega
      have e1 : IntKind.i64.wrap (j : Int) = (j : Int) := IntWalk.i64_in _ (by omega)
      have e2 : IntKind.i64.wrap ((a : Int) * 16) = (a : Int) * 16 := IntWalk.i64_in _ (by omega)
      have e3 : IntKind.i64.wrap (a : Int) = (a : Int) := IntWalk.i64_in _ (by omega)
      have hiL : (i : Int) < 512 := by omega
      have HI := Lib.hid hi
      have HJ := Lib.hid hj
      have R1 := Lib.hid hr1
      have R2 := Lib.hid hr2
      have HBL := Lib.hid hbel
      have HKN := Lib.hid hlt
      generalize decide (k ≠ a) = d at eJ eI
      generalize strN (blk J1 k) = sc at CVC eJ
      generalize strN (blk J2 k) = sd at CVD eJ
      generalize j - i = mm at CVC CVD sC sD
      generalize 512 - i = m3 at CVC CVD sC sD
      clear ps hi hj hr1 hr2 hbel hlt hk LIKE
      cases d
      all_goals
        go_wp2_with fail
        go_quiet (fail)
        clear CVC CVD sC sD eJ eI
        go_wp2_with fail
        go_roundw
        case rel =>
          refine ⟨k + 1, by have := HKN.out; omega, ?_, R1.out, R2.out, ⟨HBL.out.os, HBL.out.tape, HBL.out.output, HBL.out.size, HBL.out.block⟩⟩
          congr 1; have := HI.out; have := HJ.out; omega
        case measure => have := HJ.out; simp [intOf]; omega
    · obtain rfl : k = 32 := by omega
      have HBL := Lib.hid hbel
      have HGL := Lib.hid (HG0.out _ hbel)
      clear hr1 hr2 hbel hlt hk
      go_wp2_with fail
      refine (AL.out _ HGL.out).mono ?_
      rintro e w9 ⟨rfl, hb⟩
      have B9 := Lib.hid (HBL.out.trans (hb.mono HBL.out.size))
      clear hb
      go_wp2_with fail
      go_ret
      exact ⟨rfl, B9.out⟩
theorem all (m : List Nat) (hm : ae.Bts 32 m) (n s : Nat) (hn : n ≤ 18446744073709551615) (v : Value) (b : List Nat) (p z : Int) (hp : -9223372036854775808 ≤ p ∧ p ≤ 9223372036854775807) (hz : 0 ≤ z ∧ z ≤ 255) (w : World) (hs : ae.Sees w v b) (hG : sh.Glob w) :
    Calls Tryd.prog 11 #[.agg (ncells m), .int .u64 n, .int .u64 s, v, .int .i64 p, .int .u8 z] w fun e w' => e = .returned (.bool true) ∧ Below w.heap.size w w' := by
  obtain ⟨x, cap, rfl, _⟩ := id hs.form
  by_cases h1 : b.length ≤ 512
  · by_cases h2 : p < 0
    · exact walkBig m n s x _ cap p z w hG (.inr (.inl ⟨by omega, h2⟩))
    · by_cases h3 : 511 < p
      · exact walkBig m n s x _ cap p z w hG (.inr (.inr (.inl ⟨by omega, h2, h3⟩)))
      · by_cases h4 : z = 0
        · exact walkBig m n s x _ cap p z w hG (.inr (.inr (.inr ⟨by omega, h2, h3, by simp [h4]⟩)))
        · obtain ⟨q, rfl⟩ : ∃ q : Nat, p = q := ⟨p.toNat, by omega⟩
          obtain ⟨y, rfl⟩ : ∃ y : Nat, z = y := ⟨z.toNat, by omega⟩
          exact walk m b hm n s hn x _ cap rfl h1 q y (by omega) (by omega) (by omega) w hs hG
  · exact walkBig m n s x _ cap p z w hG (.inl (by omega))

set_option maxRecDepth 100000 in
theorem lifted (os : Os) (started : os.Started) (H : Type) (enc : TypeId × Value → H) :
    ReturnsInHanded {} Tryd.checked os 11 .any (fun w args => (Rows.sealPartsSpec.pre enc Tryd.prog Tryd.f11 [] false w args ∧ laidMetH Tryd.prog sh.laid2 w) ∧ sizedMet enc Tryd.prog Tryd.f11 (OpenSpec.ofChange Rows.sealPartsSpec) false w args)
      (Rows.sealPartsSpec.post enc Tryd.prog Tryd.f11 false true false false) := by
  refine returnsInHanded_of_change_and (C := Tryd.checked) (X := fun w _ => laidMetH Tryd.prog sh.laid2 w) (fun _ _ _ hh h => h.of_heap hh) sh.own started (by kernel_rfl) Tryd.func11
    (ChangeSpec.witness_shaped (enc := enc) (C := Tryd.checked) (os := os) (X := fun w _ => laidMetH Tryd.prog sh.laid2 w) false (World.doorLaid Tryd.prog 400 os) #[.agg (Array.replicate 32 (.int .u8 0)), .int .u64 0, .int .u64 0, .slice none 0 0, .int .i64 0, .int .u8 0] 8 rfl (World.shaped_of_RefB (by kernel_rfl) (by kernel_rfl)) (by kernel_rfl) (by kernel_rfl) (by kernel_rfl) (sh.door_met os _)) ?_
  intro W base args ds gs before hval0 hW _ _ hL _
  have hval : ∀ (j : Nat) t v, Tryd.f11.params[j]? = some t → args[j]? = some v → Value.okWide Tryd.prog W .any base t v := hval0
  have hW' := hW
  obtain ⟨p, q, hA0, hV, rfl, hfz, hnd⟩ := hW
  have hA : DataW.TrodAll enc Tryd.prog W 0 (fun _ => true) true Tryd.f11.params.toList args.toList ds p := hA0
  rw [Tryd.params11] at hA hval
  obtain ⟨v0, vs0, d0, ds0, p0, q0, hargs, rfl, rfl, h0, r0⟩ := trodAll_cons hA
  obtain ⟨v1, vs1, d1, ds1, p1, q1, rfl, rfl, rfl, h1, r1⟩ := trodAll_cons r0
  obtain ⟨v2, vs2, d2, ds2, p2, q2, rfl, rfl, rfl, h2, r2⟩ := trodAll_cons r1
  obtain ⟨v3, vs3, d3, ds3, p3, q3, rfl, rfl, rfl, h3, r3⟩ := trodAll_cons r2
  obtain ⟨v4, vs4, d4, ds4, p4, q4, rfl, rfl, rfl, h4, r4⟩ := trodAll_cons r3
  obtain ⟨v5, vs5, d5, ds5, p5, q5, rfl, rfl, rfl, h5, r5⟩ := trodAll_cons r4
  obtain ⟨rfl, rfl, rfl⟩ := trodAll_nil r5
  obtain rfl : args = #[v0, v1, v2, v3, v4, v5] := by cases args; simp_all
  obtain ⟨rfl, rfl⟩ := trodVars_none hV
  obtain ⟨x0, s0, rfl⟩ := ae.open_arr (n := 32) (by kernel_rfl) (by kernel_rfl) (hval 0 38 v0 rfl rfl) h0
  obtain ⟨a1, rfl, rfl, rfl, w1⟩ := open_int Tryd.underlying22 (hval 1 22 v1 rfl rfl) h1
  have b1 := bounds_u64 w1
  obtain ⟨n1, rfl⟩ : ∃ n : Nat, a1 = n := ⟨a1.toNat, by omega⟩
  obtain ⟨a2, rfl, rfl, rfl, w2⟩ := open_int Tryd.underlying22 (hval 2 22 v2 rfl rfl) h2
  have b2 := bounds_u64 w2
  obtain ⟨n2, rfl⟩ : ∃ n : Nat, a2 = n := ⟨a2.toNat, by omega⟩
  obtain ⟨x3, s3⟩ := ae.open_sees (hval 3 49 v3 rfl rfl) h3
  obtain ⟨a4, rfl, rfl, rfl, w4⟩ := open_int Tryd.underlying3 (hval 4 3 v4 rfl rfl) h4
  have b4 := bounds_i64 w4
  obtain ⟨a5, rfl, rfl, rfl, w5⟩ := open_int Tryd.underlying5 (hval 5 5 v5 rfl rfl) h5
  have b5 := bounds_u8 w5
  refine (all x0 s0 n1 n2 (by omega) v3 x3 a4 a5 b4 b5 W s3 (sh.of_laid hL)).mono fun e W' ⟨he, hb⟩ => ?_
  subst he
  exact ⟨_, rfl, sh.law_post hW' rfl rfl rfl (by kernel_rfl) hb⟩
/-- The row's statement. -/
theorem row_holds : Rows.SealPartsSaid :=
  OpenClaim.holds_of_wide 11 Tryd.f11 rfl rfl rfl rfl rfl rfl rfl ⟨rfl, rfl, rfl, rfl, rfl⟩ rfl rfl rfl rfl rfl (by kernel_rfl) Tryd.func11 (by kernel_rfl)
    (of_decide_eq_true (by kernel_rfl)) (by unfold Func.isWrapper; first | (rw [if_pos (by decide +kernel)]; kernel_rfl) | (rw [if_neg (by decide +kernel)]; exact ⟨rfl, rfl⟩))
    (fun os started H enc _ => lifted os started H enc)
/-- The tied card. -/
theorem proved : Rows.SealPartsCardSaid :=
  Claim7.holds_tied_plain_at .later [] [.data, .data] true (true, "0457159e5fbc900da0b901a90696513c7756748e29878623afbd297629de2456") false
    row_holds (fun _ h => by cases h) (by kernel_rfl) (fun _ h => by cases h) Go.Proofs.YtpkeofioobmmoaaDoor.sealParts_row_tie rfl ⟨rfl, rfl⟩ (by kernel_rfl) rfl
    (fun f fn hf hfn => by
      obtain rfl : f = 11 := Option.some.inj ((show Tryd.prog.funcNamed "casemate/casematelaw22.SealParts" = some 11 by kernel_rfl).symm.trans hf) |>.symm
      obtain rfl : fn = Tryd.f11 := (Option.some.inj (Tryd.func11.symm.trans hfn)).symm
      exact ⟨by kernel_rfl, fun j t ht => by
        rw [Tryd.params11] at ht
        have hm : t ∈ [38, 22, 22, 49, 3, 5] := by simpa using Array.mem_of_getElem? ht
        have hall : ([38, 22, 22, 49, 3, 5].all fun u => !Tryd.prog.wantsStandIn u) = true := by kernel_rfl
        exact (show Tryd.prog.wantsStandIn t = false by simpa using List.all_eq_true.1 hall t hm)⟩)
    (by kernel_rfl)
#print axioms proved
end Go.Proofs.YtpkeofioobmmoaaDoor.sealParts
