/-
  For every text and all cuts the law ShaPieces of package casematelaw02 returns true, and they read afterwards as before: in whatever pieces a text comes, its sum is the same; asking changes nothing. Condition: the package's two tables read, when the call begins, as their declarations lay them (the card ties that to the program's text).
-/
import Derived.Test.YtmkaagiabafooaaDoorAlive
import Derived.Test.YtmkaagiabafooaaDoorLaid
import Derived.Test.YtmkaagiabafooaaDoorI
import Derived.Deep.RegionHeld
namespace Go.Proofs.YtmkaagiabafooaaDoor.shaPieces
open Go.ChangeShapes Go.WideShapes Go.ChangeAt Go.RowKit
theorem sees_lt {w : World} {v : Value} {xs : List Int} (h : Sees w v xs) (h0 : xs ≠ []) (g : Nat) (hg : w.heap.size ≤ g) : v.ownBlock ≠ some g := by
  obtain ⟨_, ⟨_, e⟩ | ⟨_, _, _, e, _⟩ | ⟨b, o, cap, rfl, _, _, _, hc⟩⟩ := h
  · exact absurd e h0
  · exact absurd e h0
  · have := World.block_lt_of_cell? w _ (hc 0 (List.length_pos_iff.2 h0))
    simp [Value.ownBlock]; simp at this; omega
theorem und22 : Tryd.prog.underlying 22 = some (.slice (Tryd.prog.elem 22)) := by kernel_rfl
/-- 'b[l:h]' of a slice that reads as bytes. -/
theorem cut_lh {w : World} {x : Option Addr} {cap : Nat} {xs : List Int} (h : Sees w (.slice x xs.length cap) xs) (l n : Nat) (hn : l + n ≤ xs.length) :
    ∃ y c, (∀ W, (Instr.slice 22 (.slice x xs.length cap) (some (.int .i64 l)) (some (.int .i64 ((l : Int) + n))) none).run Tryd.prog W = .ok (.slice y n c) W) ∧ Sees w (.slice y n c) ((xs.drop l).take n) := by
  have hc : xs.length ≤ cap := by
    obtain ⟨_, ⟨e, e2⟩ | ⟨_, _, e, e2, _⟩ | ⟨_, _, _, e, _, h1, _⟩⟩ := h
    · subst e2; simp
    · subst e2; simp
    · simp only [Value.slice.injEq] at e; omega
  have hrun : ∀ W, (Instr.slice 22 (.slice x xs.length cap) (some (.int .i64 l)) (some (.int .i64 ((l : Int) + n))) none).run Tryd.prog W = .ok (sliced x l (l + n) cap 1) W := fun W => by
    rw [run_slice_lh W 22 x xs.length cap und22 .i64 .i64 l ((l : Int) + n) (by omega) (by omega) (by omega), size5']
    simp only [Result.andThen, Int.toNat_natCast]
    rw [show ((l : Int) + n).toNat = l + n by omega]
  have e : sliced x l (l + n) cap 1 = .slice (if cap = l then x else x.map (·.add (l * 1))) n (cap - l) := by
    unfold sliced; rw [Nat.add_sub_cancel_left]
  rw [e] at hrun
  refine ⟨_, _, hrun, h.1.drop l |>.take n, ?_⟩
  have hlen : ((xs.drop l).take n).length = n := by rw [List.length_take, List.length_drop]; omega
  obtain ⟨_, ⟨e1, e2⟩ | ⟨a, c', e1, e2, hm⟩ | ⟨b, o, c', e1, h0, hl, hm, hcell⟩⟩ := h
  · simp only [Value.slice.injEq] at e1
    obtain ⟨rfl, _, rfl⟩ := e1
    subst e2
    have : l = 0 ∧ n = 0 := by simp at hn; omega
    obtain ⟨rfl, rfl⟩ := this
    exact .inl ⟨rfl, rfl⟩
  · simp only [Value.slice.injEq] at e1
    obtain ⟨rfl, _, rfl⟩ := e1
    subst e2
    have : l = 0 ∧ n = 0 := by simp at hn; omega
    obtain ⟨rfl, rfl⟩ := this
    by_cases hz : cap = 0
    · rw [if_pos hz]; exact .inr (.inl ⟨a, _, rfl, rfl, by simpa using hm⟩)
    · rw [if_neg hz]; exact .inr (.inl ⟨_, _, rfl, rfl, by simpa using hm⟩)
  · simp only [Value.slice.injEq] at e1
    obtain ⟨rfl, _, rfl⟩ := e1
    by_cases hz : n = 0
    · subst hz
      have hm' : cap - l ≤ maxLen := Nat.le_trans (Nat.sub_le _ _) hm
      by_cases hz2 : cap = l
      · rw [if_pos hz2]; exact .inr (.inl ⟨_, _, rfl, List.take_zero, hm'⟩)
      · rw [if_neg hz2]; exact .inr (.inl ⟨_, _, rfl, List.take_zero, hm'⟩)
    · rw [if_neg (by omega)]
      refine .inr (.inr ⟨b, o + l, cap - l, ?_, ?_, ?_, Nat.le_trans (Nat.sub_le _ _) hm, ?_⟩)
      · rw [hlen]; simp [addr_add]
      · intro e; rw [e] at hlen; simp at hlen; omega
      · rw [hlen]; omega
      · intro i hi
        rw [hlen] at hi
        rw [Nat.add_assoc, hcell (l + i) (by omega)]
        simp [nth, List.getD, List.getElem?_take_of_lt hi, List.getElem?_drop]
/-- 'b[l:]' of a slice that reads as bytes. -/
theorem cut_l {w : World} {x : Option Addr} {cap : Nat} {xs : List Int} (h : Sees w (.slice x xs.length cap) xs) (l : Nat) (hn : l ≤ xs.length) :
    ∃ y c, (∀ W, (Instr.slice 22 (.slice x xs.length cap) (some (.int .i64 l)) none none).run Tryd.prog W = .ok (.slice y (xs.length - l) c) W) ∧ Sees w (.slice y (xs.length - l) c) (xs.drop l) := by
  obtain ⟨y, c, hr, hs⟩ := cut_lh h l (xs.length - l) (by omega)
  have hc : xs.length ≤ cap := by
    obtain ⟨_, ⟨e, e2⟩ | ⟨_, _, e, e2, _⟩ | ⟨_, _, _, e, _, h1, _⟩⟩ := h
    · subst e2; simp
    · subst e2; simp
    · simp only [Value.slice.injEq] at e; omega
  refine ⟨y, c, fun W => ?_, ?_⟩
  · have h1 := hr W
    rw [run_slice_lh W 22 x xs.length cap und22 .i64 .i64 l ((l : Int) + (xs.length - l : Nat)) (by omega) (by omega) (by omega), size5'] at h1
    rw [run_slice_l W 22 x xs.length cap und22 .i64 l (by omega) (by omega), size5']
    simp only [Result.andThen, Int.toNat_natCast] at h1 ⊢
    rw [show ((l : Int) + (xs.length - l : Nat)).toNat = xs.length by omega] at h1
    exact h1
  · have e : (xs.drop l).take (xs.length - l) = xs.drop l := List.take_of_length_le (by rw [List.length_drop]; omega)
    rw [e] at hs
    exact hs
theorem and81 (n : Nat) (h : n < 256) : bits .and .u8 (n : Int) 1 = ((n % 2 : Nat) : Int) := by
  have e : bits .and .u8 (n : Int) 1 = IntKind.u8.wrap ((BitVec.ofInt 8 (n : Int) &&& BitVec.ofInt 8 ((1 : Nat) : Int)).toNat : Int) := rfl
  rw [e, BitVec.ofInt_natCast, BitVec.ofInt_natCast, BitVec.toNat_and, BitVec.toNat_ofNat, BitVec.toNat_ofNat, Nat.mod_eq_of_lt h, Nat.and_one_is_mod]
  exact u8nat _ (by omega)
set_option maxRecDepth 100000 in
theorem walk_great (va vb : Value) (xs : List Int) (ys : List Int) (w : World) (hG : Glob w) (ha : Sees w va xs) (hb : Sees w vb ys) (h : 3000 < xs.length) :
    Calls Tryd.prog 5 #[va, vb] w fun e w' => e = .returned (.bool true) ∧ Below w.heap.size w w' := by
  obtain ⟨x1, c1, rfl, l1⟩ := ha.form
  obtain ⟨x2, c2, rfl, l2⟩ := hb.form
  have AL := Lib.hid (alive w hG)
  clear ha hb hG
  have t1 : (3000 : Int) < xs.length := by omega
  go_enter Tryd.func5, Tryd.ntmps5
  go_wp2_with fail
  refine AL.out.mono ?_
  rintro e w1 ⟨rfl, hb⟩
  have HB := Lib.hid hb
  clear hb
  go_wp2_with fail
  go_ret
  exact ⟨rfl, HB.out⟩
set_option maxRecDepth 100000 in
set_option maxHeartbeats 8000000 in
theorem walk (va vb : Value) (xs cs : List Int) (w : World) (hG : Glob w) (ha : Sees w va xs) (hb : Sees w vb cs) (h1 : xs.length ≤ 3000) :
    Calls Tryd.prog 5 #[va, vb] w fun e w' => e = .returned (.bool true) ∧ Below w.heap.size w w' := by
  obtain ⟨x1, c1, rfl, l1⟩ := id ha.form
  obtain ⟨x2, c2, rfl, l2⟩ := id hb.form
  have h2w : 2 ≤ w.heap.size := by have := hG.lt; omega
  have z27 := zv27
  obtain ⟨Z27, hZ27⟩ : ∃ Z, Z = bcells (List.replicate 32 0) := ⟨_, rfl⟩
  rw [← hZ27] at z27
  obtain ⟨A, hA⟩ : ∃ A, A = sha xs := ⟨_, rfl⟩
  have lA : A.length = 32 := by rw [hA]; exact sha_len _ ha.1
  have bA : Byt A := by rw [hA]; exact sha_byt _
  have IA := Lib.hid (show (Tryd.prog.info? 27).map (·.size) = some (bcells A).size by rw [i27, bsize, lA])
  have ZA := Lib.hid (show Z27.size = (bcells A).size by rw [hZ27, bsize, bsize, lA, List.length_replicate])
  have OA := Lib.hid (bone A)
  have LL := Lib.hid (len27' A lA)
  have EQ := Lib.hid (eq27_same A bA lA)
  have SM : Hid (∀ W v, Glob W → Sees W v xs → Calls Tryd.prog 14 #[v] W fun e w' => e = .returned (.agg (bcells A)) ∧ Below W.heap.size W w') := fun W v hg hv => by
    have h := sum1 v _ W hv (by omega) hg; rw [← hA] at h; exact h
  have SH : Hid (∀ W g, HSat W g (puts h0 xs) ((xs.length : Nat) : Int) → Glob W → Calls Tryd.prog 20 #[.pointer (some ⟨g, 0, none⟩)] W fun e w' => e = .returned (.tuple #[.agg (bcells A), .int .i64 0]) ∧ Below W.heap.size W w') := fun W g hs hg => by
    have h := sumh g (puts h0 xs) xs.length (by omega) W hs hg
    rw [show sumOf (puts h0 xs) xs.length = A from hA.symm] at h; exact h
  have t1 : ¬ (3000 : Int) < xs.length := by omega
  have HA := Lib.hid ha
  have HBB := Lib.hid hb
  have HGL := Lib.hid hG
  have H2W := Lib.hid h2w
  have H1 := Lib.hid h1
  clear hZ27 hA lA bA ha hb hG h2w h1
  go_enter Tryd.func5, Tryd.ntmps5
  go_wp2_with fail
  refine (newh w HGL.out).mono ?_
  rintro e w1 ⟨rfl, hw1⟩
  have hst := new_at w
  rw [hw1] at hst
  have hb1 : Below w.heap.size w w1 := by rw [← hw1]; exact (Below.refl _ _).alloc (Nat.le_refl _) _
  have HST := Lib.hid hst
  have HB1 := Lib.hid hb1
  clear hst hb1 hw1
  go_wp2_with fail
  go_loopw [6, 7] (fun va vi wr => ∃ (j n : Nat), j ≤ cs.length ∧ n ≤ xs.length ∧ vi = .int .i64 j ∧ va = .int .i64 n ∧ HSat wr w.heap.size (puts h0 (xs.take n)) ((n : Nat) : Int) ∧ Below w.heap.size w wr) (fun _ vi _ => cs.length - (intOf vi).toNat)
  case atStart => exact ⟨0, 0, by omega, by omega, rfl, rfl, HST.out, HB1.out⟩
  case round =>
    clear HST HB1
    obtain ⟨j, n, hj, hn, rfl, rfl, hst, hbel⟩ := hrel
    have HST := Lib.hid hst
    have HB := Lib.hid hbel
    clear hst hbel
    by_cases hlt : j < cs.length ∧ n < xs.length
    · obtain ⟨hjl, hnl⟩ := hlt
      obtain ⟨b, o, rfl, hcell⟩ : ∃ b o, x2 = some ⟨b, o, none⟩ ∧ w.cell? ⟨b, o + j, none⟩ = some (.int .u8 (nth cs j)) := by
        obtain ⟨_, ⟨e, e2⟩ | ⟨_, _, e, e2, _⟩ | ⟨b, o, _, e, _, _, _, h⟩⟩ := HBB.out
        · rw [e2] at hjl; simp at hjl
        · rw [e2] at hjl; simp at hjl
        · simp only [Value.slice.injEq] at e
          obtain ⟨rfl, _, _⟩ := e
          exact ⟨b, o, rfl, h j hjl⟩
      have hblt : b < w.heap.size := World.block_lt_of_cell? w _ hcell
      have hcb := HBB.out.1.nth j
      obtain ⟨c, hc⟩ := Int.eq_ofNat_of_zero_le hcb.1
      have hc255 : c < 256 := by omega
      have cw : wr.cell? ⟨b, o + j, none⟩ = some (.int .u8 (c : Int)) := by
        rw [HB.out.cell (World.block_lt_of_cell? w _ hcell), hcell, hc]
      obtain ⟨m, hm⟩ : ∃ m, m = min c (xs.length - n) := ⟨_, rfl⟩
      obtain ⟨y, k, hcut, hsee⟩ := cut_lh HA.out n m (by omega)
      have hbt : Byt xs := HA.out.1
      have hlen : ((xs.drop n).take m).length = m := by rw [List.length_take, List.length_drop]; omega
      have hpp : puts (puts h0 (xs.take n)) ((xs.drop n).take m) = puts h0 (xs.take (n + m)) := by rw [← puts_append, ← List.take_add]
      have hwr : Calls Tryd.prog 19 #[.pointer (some ⟨w.heap.size, 0, none⟩), .slice y m k] wr (fun e w' => e = .returned (.int .i64 0) ∧ HSat w' w.heap.size (puts h0 (xs.take (n + m))) ((n + m : Nat) : Int) ∧ wr.grownBy w' (some w.heap.size)) :=
        (write w.heap.size _ n _ _ wr HST.out (hsee.below HB.out) (fun h0 => sees_lt hsee h0 _ (Nat.le_refl _)) (by rw [hlen]; omega) H2W.out (HGL.out.below HB.out H2W.out)).mono fun e w' h => by
          unfold WriteP at h
          rw [hpp, hlen] at h
          exact h
      have HWR := Lib.hid hwr
      have HM := Lib.hid hm
      have hand := and81 c hc255
      have hjl' : (j : Int) < cs.length := by omega
      have hnl' : (n : Int) < xs.length := by omega
      have hxl : (xs.length : Int) ≤ 3000 := by omega
      have hc0 : (0 : Int) ≤ c := by omega
      have hc1 : (c : Int) ≤ 255 := by omega
      have HJ := Lib.hid (And.intro hjl hnl)
      clear hcell hcb hc hsee hlen hpp hwr hm hbt hjl hnl
      by_cases hbig : (c : Int) > (xs.length : Int) - n
      · have hmi : (m : Int) = (xs.length : Int) - n := by have := HM.out; have := HJ.out; omega
        have hcut2 : ∀ W, (Instr.slice 22 (.slice x1 xs.length c1) (some (.int .i64 n)) (some (.int .i64 ((n : Int) + ((xs.length : Int) - n)))) none).run Tryd.prog W = .ok (.slice y m k) W := fun W => by rw [← hmi]; exact hcut W
        have HMI := Lib.hid hmi
        clear hmi hcut
        rcases Nat.mod_two_eq_zero_or_one c with hp | hp
        · rw [hp] at hand
          have hand' : bits .and .u8 (c : Int) 1 = 0 := hand
          clear hand hp
          go_wp2_with fail
          refine HWR.out.mono ?_
          rintro e w2 ⟨rfl, hst2, hg2⟩
          have ST2 := Lib.hid hst2
          have B2 : Hid (Below w.heap.size w w2) := HB.out.grown hg2 HB.out.size (fun k e => by rw [← Option.some.inj e]; exact Nat.le_refl _)
          have cw2 : w2.cell? ⟨b, o + j, none⟩ = some (.int .u8 (c : Int)) := hg2.cell cw (fun e => by have := Option.some.inj e; simp at this; omega)
          clear hst2 hg2 cw
          go_wp2_with fail
          go_roundw
          case rel => exact ⟨j + 1, n + m, by have := HJ.out; omega, by have := HM.out; have := HJ.out; omega, by go_num, by congr 1; have := HMI.out; omega, ST2.out, B2.out⟩
          case measure => simp [intOf]; have := HJ.out; omega
        · rw [hp] at hand
          have hand' : bits .and .u8 (c : Int) 1 = 1 := hand
          clear hand hp
          go_wp2_with fail
          refine HWR.out.mono ?_
          rintro e w2 ⟨rfl, hst2, hg2⟩
          have ST2 := Lib.hid hst2
          have B2 : Hid (Below w.heap.size w w2) := HB.out.grown hg2 HB.out.size (fun k e => by rw [← Option.some.inj e]; exact Nat.le_refl _)
          have cw2 : w2.cell? ⟨b, o + j, none⟩ = some (.int .u8 (c : Int)) := hg2.cell cw (fun e => by have := Option.some.inj e; simp at this; omega)
          clear hst2 hg2 cw
          go_wp2_with fail
          refine (sumh w.heap.size _ (n + m) (by have := HM.out; have := H1.out; have := HJ.out; omega) w2 ST2.out (HGL.out.below B2.out H2W.out)).mono ?_
          rintro e w3 ⟨rfl, hb⟩
          have ST3 := Lib.hid (ST2.out.below hb)
          have B3 : Hid (Below w.heap.size w w3) := B2.out.trans (hb.mono B2.out.size)
          clear hb cw2
          go_wp2_with fail
          go_roundw
          case rel => exact ⟨j + 1, n + m, by have := HJ.out; omega, by have := HM.out; have := HJ.out; omega, by go_num, by congr 1; have := HMI.out; omega, ST3.out, B3.out⟩
          case measure => simp [intOf]; have := HJ.out; omega
      · have hmc : m = c := by have := HM.out; have := HJ.out; omega
        subst hmc
        rcases Nat.mod_two_eq_zero_or_one m with hp | hp
        · rw [hp] at hand
          have hand' : bits .and .u8 (m : Int) 1 = 0 := hand
          clear hand hp
          go_wp2_with fail
          refine HWR.out.mono ?_
          rintro e w2 ⟨rfl, hst2, hg2⟩
          have ST2 := Lib.hid hst2
          have B2 : Hid (Below w.heap.size w w2) := HB.out.grown hg2 HB.out.size (fun k e => by rw [← Option.some.inj e]; exact Nat.le_refl _)
          have cw2 : w2.cell? ⟨b, o + j, none⟩ = some (.int .u8 (m : Int)) := hg2.cell cw (fun e => by have := Option.some.inj e; simp at this; omega)
          clear hst2 hg2 cw
          go_wp2_with fail
          go_roundw
          case rel => exact ⟨j + 1, n + m, by have := HJ.out; omega, by have := HM.out; have := HJ.out; omega, by go_num, by congr 1, ST2.out, B2.out⟩
          case measure => simp [intOf]; have := HJ.out; omega
        · rw [hp] at hand
          have hand' : bits .and .u8 (m : Int) 1 = 1 := hand
          clear hand hp
          go_wp2_with fail
          refine HWR.out.mono ?_
          rintro e w2 ⟨rfl, hst2, hg2⟩
          have ST2 := Lib.hid hst2
          have B2 : Hid (Below w.heap.size w w2) := HB.out.grown hg2 HB.out.size (fun k e => by rw [← Option.some.inj e]; exact Nat.le_refl _)
          have cw2 : w2.cell? ⟨b, o + j, none⟩ = some (.int .u8 (m : Int)) := hg2.cell cw (fun e => by have := Option.some.inj e; simp at this; omega)
          clear hst2 hg2 cw
          go_wp2_with fail
          refine (sumh w.heap.size _ (n + m) (by have := HM.out; have := H1.out; have := HJ.out; omega) w2 ST2.out (HGL.out.below B2.out H2W.out)).mono ?_
          rintro e w3 ⟨rfl, hb⟩
          have ST3 := Lib.hid (ST2.out.below hb)
          have B3 : Hid (Below w.heap.size w w3) := B2.out.trans (hb.mono B2.out.size)
          clear hb cw2
          go_wp2_with fail
          go_roundw
          case rel => exact ⟨j + 1, n + m, by have := HJ.out; omega, by have := HM.out; have := HJ.out; omega, by go_num, by congr 1, ST3.out, B3.out⟩
          case measure => simp [intOf]; have := HJ.out; omega
    · have hxl : (xs.length : Int) ≤ 3000 := by have := H1.out; omega
      by_cases hj2 : j < cs.length
      · have hnn : n = xs.length := by omega
        have hnl' : ¬ (n : Int) < xs.length := by omega
        have hjl' : (j : Int) < cs.length := by omega
        have hni : (n : Int) ≤ xs.length := by omega
        clear hlt hnn hj2
        have hcc := cut_l HA.out n hn
        obtain ⟨y, k, hcut, hsee⟩ := hcc
        have hpp : puts (puts h0 (xs.take n)) (xs.drop n) = puts h0 xs := by rw [← puts_append, List.take_append_drop]
        have hdl : (xs.drop n).length = xs.length - n := List.length_drop
        have hwr : Calls Tryd.prog 19 #[.pointer (some ⟨w.heap.size, 0, none⟩), .slice y (xs.length - n) k] wr (fun e w' => e = .returned (.int .i64 0) ∧ HSat w' w.heap.size (puts h0 xs) ((xs.length : Nat) : Int) ∧ wr.grownBy w' (some w.heap.size)) :=
          (write w.heap.size _ n _ _ wr HST.out (hsee.below HB.out) (fun h0 => sees_lt hsee h0 _ (Nat.le_refl _)) (by rw [hdl]; omega) H2W.out (HGL.out.below HB.out H2W.out)).mono fun e w' h => by
            unfold WriteP at h
            rw [hpp, hdl, show n + (xs.length - n) = xs.length by omega] at h
            exact h
        have HWR := Lib.hid hwr
        clear hsee hpp hdl hwr
        go_wp2_with fail
        refine HWR.out.mono ?_
        rintro e w2 ⟨rfl, hst2, hg2⟩
        have ST2 := Lib.hid hst2
        have B2 : Hid (Below w.heap.size w w2) := HB.out.grown hg2 HB.out.size (fun k e => by rw [← Option.some.inj e]; exact Nat.le_refl _)
        clear hst2 hg2 hcut
        go_wp2_with fail
        refine (SH.out w2 w.heap.size ST2.out (HGL.out.below B2.out H2W.out)).mono ?_
        rintro e w3 ⟨rfl, hb⟩
        have st4 := (ST2.out.below hb).below (((Below.refl _ _).alloc (Nat.le_refl _) (.cells Z27 27)).trans (below_row _ (bcells A) (Nat.le_refl _)))
        have B3 := B2.out.trans (hb.mono B2.out.size)
        have B4 : Hid (Below w.heap.size w ((w3.alloc (.cells Z27 27)).setRow w3.heap.size (bcells A))) := (B3.alloc B3.size _).trans (below_row _ _ B3.size)
        have r4 : Row27 ((w3.alloc (.cells Z27 27)).setRow w3.heap.size (bcells A)) w3.heap.size A := setRow_heap _ _ _ _ _ _ (heap_alloc_new w3 _)
        have ST4 := Lib.hid st4
        have R4 := Lib.hid r4
        clear hb st4 r4 B3
        go_wp2_with (refine wpList_store_row rfl 27 (.tmp 9) (.tmp 74) rfl w3.heap.size (bcells A) rfl rfl 27 Z27 (heap_alloc_new w3 _) IA.out ZA.out OA.out ?_)
        generalize (w3.alloc (.cells Z27 27)).setRow w3.heap.size (bcells A) = w4 at ST4 R4 B4 ⊢
        refine (SH.out w4 w.heap.size ST4.out (HGL.out.below B4.out H2W.out)).mono ?_
        rintro e w5 ⟨rfl, hb⟩
        have q6 : Below w5.heap.size w5 ((w5.alloc (.cells Z27 27)).setRow w5.heap.size (bcells A)) := ((Below.refl _ _).alloc (Nat.le_refl _) _).trans (below_row _ _ (Nat.le_refl _))
        have B5 := B4.out.trans (hb.mono B4.out.size)
        have B6 : Hid (Below w.heap.size w ((w5.alloc (.cells Z27 27)).setRow w5.heap.size (bcells A))) := B5.trans (q6.mono B5.size)
        have r6 : Row27 ((w5.alloc (.cells Z27 27)).setRow w5.heap.size (bcells A)) w5.heap.size A := setRow_heap _ _ _ _ _ _ (heap_alloc_new w5 _)
        have R5 := Lib.hid ((R4.out.below hb).below q6)
        have R6 := Lib.hid r6
        clear hb q6 B5 r6
        go_wp2_with (refine wpList_store_row rfl 27 (.tmp 11) (.tmp 79) rfl w5.heap.size (bcells A) rfl rfl 27 Z27 (heap_alloc_new w5 _) IA.out ZA.out OA.out ?_)
        generalize (w5.alloc (.cells Z27 27)).setRow w5.heap.size (bcells A) = w6 at R5 R6 B6 ⊢
        have eq := EQ.out
        refine wp_region_held_drew (S := fun W => Below w6.heap.size w6 W) (by kernel_rfl) (Below.refl _ _).drew (fun hS => ?_)
        refine wpAnyH_ready (rs := [0]) (by kernel_rfl) (by simp) ?_
        refine' AllReadyH.cons ?hoc0p (fun K hK => ?stc0p) AllReadyH.nil
        case hoc0p => (simp only [List.getElem?_toArray, List.getElem?_cons_zero]; rfl)
        go_simp
        refine (alive _ (HGL.out.below (B6.out.trans (hS.mono B6.out.size)) H2W.out)).mono ?_
        rintro e w7 ⟨rfl, hb⟩
        go_wp2_with fail
        refine hK.out _ _ (hS.trans (hb.mono hS.size)) (fun hHeld => ?_)
        clear hK K
        try simp only [Act.put, List.setIfInBounds_toArray, List.set_cons_succ, List.set_cons_zero]
        clear hS hb
        have hS := hHeld
        clear hHeld
        refine' wpAnyH_take (i := 1) ?h1x1p ?hsx1p ?hfx1p ?hrx1p ?hQx1p (Or.inl ⟨?hwx1p, ?hyx1p⟩) hS ?restx1p
        case h1x1p => (simp only [List.getElem?_toArray, List.getElem?_cons_succ, List.getElem?_cons_zero]; rfl)
        case hsx1p => kernel_rfl
        case hfx1p => kernel_rfl
        case hrx1p => kernel_rfl
        case hQx1p => exact fun _ _ _ h => h
        case hwx1p => rfl
        case hyx1p =>
          intro W hW
          go_simp
          try with_reducible rfl
        simp only [Act.put, List.setIfInBounds_toArray, List.set_cons_succ, List.set_cons_zero]
        refine' wpAnyH_take (i := 2) ?h1x2p ?hsx2p ?hfx2p ?hrx2p ?hQx2p (Or.inl ⟨?hwx2p, ?hyx2p⟩) hS ?restx2p
        case h1x2p => (simp only [List.getElem?_toArray, List.getElem?_cons_succ, List.getElem?_cons_zero]; rfl)
        case hsx2p => kernel_rfl
        case hfx2p => kernel_rfl
        case hrx2p => kernel_rfl
        case hQx2p => exact fun _ _ _ h => h
        case hwx2p => rfl
        case hyx2p =>
          intro W hW
          go_simp
          try with_reducible rfl
        simp only [Act.put, List.setIfInBounds_toArray, List.set_cons_succ, List.set_cons_zero]
        refine' wpAnyH_take (i := 3) ?h1x3p ?hsx3p ?hfx3p ?hrx3p ?hQx3p (Or.inl ⟨?hwx3p, ?hyx3p⟩) hS ?restx3p
        case h1x3p => (simp only [List.getElem?_toArray, List.getElem?_cons_succ, List.getElem?_cons_zero]; rfl)
        case hsx3p => kernel_rfl
        case hfx3p => kernel_rfl
        case hrx3p => kernel_rfl
        case hQx3p => exact fun _ _ _ h => h
        case hwx3p => rfl
        case hyx3p =>
          intro W hW
          go_simp
          try with_reducible rfl
        simp only [Act.put, List.setIfInBounds_toArray, List.set_cons_succ, List.set_cons_zero]
        refine' wpAnyH_take (i := 4) ?h1x4p ?hsx4p ?hfx4p ?hrx4p ?hQx4p (Or.inl ⟨?hwx4p, ?hyx4p⟩) hS ?restx4p
        case h1x4p => (simp only [List.getElem?_toArray, List.getElem?_cons_succ, List.getElem?_cons_zero]; rfl)
        case hsx4p => kernel_rfl
        case hfx4p => kernel_rfl
        case hrx4p => kernel_rfl
        case hQx4p => exact fun _ _ _ h => h
        case hwx4p => rfl
        case hyx4p =>
          intro W hW
          go_simp
          try with_reducible rfl
        simp only [Act.put, List.setIfInBounds_toArray, List.set_cons_succ, List.set_cons_zero]
        refine' wpAnyH_take (i := 5) ?h1x5p ?hsx5p ?hfx5p ?hrx5p ?hQx5p (Or.inl ⟨?hwx5p, ?hyx5p⟩) hS ?restx5p
        case h1x5p => (simp only [List.getElem?_toArray, List.getElem?_cons_succ, List.getElem?_cons_zero]; rfl)
        case hsx5p => kernel_rfl
        case hfx5p => kernel_rfl
        case hrx5p => kernel_rfl
        case hQx5p => exact fun _ _ _ h => h
        case hwx5p => rfl
        case hyx5p =>
          intro W hW
          go_simp
          try with_reducible rfl
        simp only [Act.put, List.setIfInBounds_toArray, List.set_cons_succ, List.set_cons_zero]
        refine' wpAnyH_take (i := 6) ?h1x6p ?hsx6p ?hfx6p ?hrx6p ?hQx6p (Or.inl ⟨?hwx6p, ?hyx6p⟩) hS ?restx6p
        case h1x6p => (simp only [List.getElem?_toArray, List.getElem?_cons_succ, List.getElem?_cons_zero]; rfl)
        case hsx6p => kernel_rfl
        case hfx6p => kernel_rfl
        case hrx6p => kernel_rfl
        case hQx6p => exact fun _ _ _ h => h
        case hwx6p => rfl
        case hyx6p =>
          intro W hW
          go_simp
          try with_reducible rfl
        simp only [Act.put, List.setIfInBounds_toArray, List.set_cons_succ, List.set_cons_zero]
        refine' wpAnyH_take (i := 7) ?h1x7p ?hsx7p ?hfx7p ?hrx7p ?hQx7p (Or.inl ⟨?hwx7p, ?hyx7p⟩) hS ?restx7p
        case h1x7p => (simp only [List.getElem?_toArray, List.getElem?_cons_succ, List.getElem?_cons_zero]; rfl)
        case hsx7p => kernel_rfl
        case hfx7p => kernel_rfl
        case hrx7p => kernel_rfl
        case hQx7p => exact fun _ _ _ h => h
        case hwx7p => rfl
        case hyx7p =>
          intro W hW
          go_simp
          try with_reducible rfl
        simp only [Act.put, List.setIfInBounds_toArray, List.set_cons_succ, List.set_cons_zero]
        refine' wpAnyH_take (i := 8) ?h1x8p ?hsx8p ?hfx8p ?hrx8p ?hQx8p (Or.inl ⟨?hwx8p, ?hyx8p⟩) hS ?restx8p
        case h1x8p => (simp only [List.getElem?_toArray, List.getElem?_cons_succ, List.getElem?_cons_zero]; rfl)
        case hsx8p => kernel_rfl
        case hfx8p => kernel_rfl
        case hrx8p => kernel_rfl
        case hQx8p => exact fun _ _ _ h => h
        case hwx8p => rfl
        case hyx8p =>
          intro W hW
          go_simp
          try with_reducible rfl
        simp only [Act.put, List.setIfInBounds_toArray, List.set_cons_succ, List.set_cons_zero]
        refine' wpAnyH_take (i := 9) ?h1x9p ?hsx9p ?hfx9p ?hrx9p ?hQx9p (Or.inl ⟨?hwx9p, ?hyx9p⟩) hS ?restx9p
        case h1x9p => (simp only [List.getElem?_toArray, List.getElem?_cons_succ, List.getElem?_cons_zero]; rfl)
        case hsx9p => kernel_rfl
        case hfx9p => kernel_rfl
        case hrx9p => kernel_rfl
        case hQx9p => exact fun _ _ _ h => h
        case hwx9p => rfl
        case hyx9p =>
          intro W hW
          go_simp
          try with_reducible rfl
        simp only [Act.put, List.setIfInBounds_toArray, List.set_cons_succ, List.set_cons_zero]
        refine' wpAnyH_take (i := 10) ?h1x10p ?hsx10p ?hfx10p ?hrx10p ?hQx10p (yieldsIf_load_mid ?hwx10p 27 (.tmp 9) ?hopx10p w3.heap.size 0 rfl (bcells A).toList _ (fun W hW => (R5.out.below hW).range) Tryd.underlying27 rfl ?hix10p) hS ?restx10p
        case h1x10p => (simp only [List.getElem?_toArray, List.getElem?_cons_succ, List.getElem?_cons_zero]; rfl)
        case hopx10p => rfl
        case hsx10p => kernel_rfl
        case hfx10p => kernel_rfl
        case hrx10p => kernel_rfl
        case hQx10p => exact fun _ _ _ h => h
        case hwx10p => rfl
        case hix10p => exact LL.out
        simp only [Act.put, List.setIfInBounds_toArray, List.set_cons_succ, List.set_cons_zero]
        refine' wpAnyH_take (i := 11) ?h1x11p ?hsx11p ?hfx11p ?hrx11p ?hQx11p (yieldsIf_load_mid ?hwx11p 27 (.tmp 11) ?hopx11p w5.heap.size 0 rfl (bcells A).toList _ (fun W hW => (R6.out.below hW).range) Tryd.underlying27 rfl ?hix11p) hS ?restx11p
        case h1x11p => (simp only [List.getElem?_toArray, List.getElem?_cons_succ, List.getElem?_cons_zero]; rfl)
        case hopx11p => rfl
        case hsx11p => kernel_rfl
        case hfx11p => kernel_rfl
        case hrx11p => kernel_rfl
        case hQx11p => exact fun _ _ _ h => h
        case hwx11p => rfl
        case hix11p => exact LL.out
        simp only [Act.put, List.setIfInBounds_toArray, List.set_cons_succ, List.set_cons_zero]
        refine' wpAnyH_take (i := 12) ?h1x12p ?hsx12p ?hfx12p ?hrx12p ?hQx12p (Or.inl ⟨?hwx12p, ?hyx12p⟩) hS ?restx12p
        case h1x12p => (simp only [List.getElem?_toArray, List.getElem?_cons_succ, List.getElem?_cons_zero]; rfl)
        case hsx12p => kernel_rfl
        case hfx12p => kernel_rfl
        case hrx12p => kernel_rfl
        case hQx12p => exact fun _ _ _ h => h
        case hwx12p => rfl
        case hyx12p =>
          intro W hW
          go_simp
          try with_reducible rfl
        simp only [Act.put, List.setIfInBounds_toArray, List.set_cons_succ, List.set_cons_zero]
        refine' wpAnyH_take (i := 13) ?h1x13p ?hsx13p ?hfx13p ?hrx13p ?hQx13p (Or.inl ⟨?hwx13p, ?hyx13p⟩) hS ?restx13p
        case h1x13p => (simp only [List.getElem?_toArray, List.getElem?_cons_succ, List.getElem?_cons_zero]; rfl)
        case hsx13p => kernel_rfl
        case hfx13p => kernel_rfl
        case hrx13p => kernel_rfl
        case hQx13p => exact fun _ _ _ h => h
        case hwx13p => rfl
        case hyx13p =>
          intro W hW
          go_simp
          try with_reducible rfl
        simp only [Act.put, List.setIfInBounds_toArray, List.set_cons_succ, List.set_cons_zero]
        refine' wpAnyH_take (i := 14) ?h1x14p ?hsx14p ?hfx14p ?hrx14p ?hQx14p (Or.inl ⟨?hwx14p, ?hyx14p⟩) hS ?restx14p
        case h1x14p => (simp only [List.getElem?_toArray, List.getElem?_cons_succ, List.getElem?_cons_zero]; rfl)
        case hsx14p => kernel_rfl
        case hfx14p => kernel_rfl
        case hrx14p => kernel_rfl
        case hQx14p => exact fun _ _ _ h => h
        case hwx14p => rfl
        case hyx14p =>
          intro W hW
          go_simp
          try with_reducible rfl
        simp only [Act.put, List.setIfInBounds_toArray, List.set_cons_succ, List.set_cons_zero]
        refine' wpAnyH_take (i := 15) ?h1x15p ?hsx15p ?hfx15p ?hrx15p ?hQx15p (yieldsIf_load_mid ?hwx15p 27 (.tmp 9) ?hopx15p w3.heap.size 0 rfl (bcells A).toList _ (fun W hW => (R5.out.below hW).range) Tryd.underlying27 rfl ?hix15p) hS ?restx15p
        case h1x15p => (simp only [List.getElem?_toArray, List.getElem?_cons_succ, List.getElem?_cons_zero]; rfl)
        case hopx15p => rfl
        case hsx15p => kernel_rfl
        case hfx15p => kernel_rfl
        case hrx15p => kernel_rfl
        case hQx15p => exact fun _ _ _ h => h
        case hwx15p => rfl
        case hix15p => exact LL.out
        simp only [Act.put, List.setIfInBounds_toArray, List.set_cons_succ, List.set_cons_zero]
        refine' wpAnyH_take (i := 16) ?h1x16p ?hsx16p ?hfx16p ?hrx16p ?hQx16p (Or.inl ⟨?hwx16p, ?hyx16p⟩) hS ?restx16p
        case h1x16p => (simp only [List.getElem?_toArray, List.getElem?_cons_succ, List.getElem?_cons_zero]; rfl)
        case hsx16p => kernel_rfl
        case hfx16p => kernel_rfl
        case hrx16p => kernel_rfl
        case hQx16p => exact fun _ _ _ h => h
        case hwx16p => rfl
        case hyx16p =>
          intro W hW
          go_simp
          try with_reducible rfl
        simp only [Act.put, List.setIfInBounds_toArray, List.set_cons_succ, List.set_cons_zero]
        refine wpAnyH_ready (rs := [17]) (by kernel_rfl) (by simp) ?_
        refine' AllReadyH.cons ?hoc17p (fun K hK => ?stc17p) AllReadyH.nil
        case hoc17p => (simp only [List.getElem?_toArray, List.getElem?_cons_succ, List.getElem?_cons_zero]; rfl)
        go_simp
        refine (SM.out _ _ (HGL.out.below (B6.out.trans (hS.mono B6.out.size)) H2W.out) (HA.out.below (B6.out.trans (hS.mono B6.out.size)))).mono ?_
        rintro e w8 ⟨rfl, hb⟩
        go_wp2_with fail
        refine hK.out _ _ (hS.trans (hb.mono hS.size)) (fun hHeld => ?_)
        clear hK K
        try simp only [Act.put, List.setIfInBounds_toArray, List.set_cons_succ, List.set_cons_zero]
        clear hS hb
        have hS := hHeld
        clear hHeld
        refine' wpAnyH_take (i := 18) ?h1x18p ?hsx18p ?hfx18p ?hrx18p ?hQx18p (Or.inl ⟨?hwx18p, ?hyx18p⟩) hS ?restx18p
        case h1x18p => (simp only [List.getElem?_toArray, List.getElem?_cons_succ, List.getElem?_cons_zero]; rfl)
        case hsx18p => kernel_rfl
        case hfx18p => kernel_rfl
        case hrx18p => kernel_rfl
        case hQx18p => exact fun _ _ _ h => h
        case hwx18p => rfl
        case hyx18p =>
          intro W hW
          go_simp
          try with_reducible rfl
        simp only [Act.put, List.setIfInBounds_toArray, List.set_cons_succ, List.set_cons_zero]
        refine' wpAnyH_take (i := 19) ?h1x19p ?hsx19p ?hfx19p ?hrx19p ?hQx19p (Or.inl ⟨?hwx19p, ?hyx19p⟩) hS ?restx19p
        case h1x19p => (simp only [List.getElem?_toArray, List.getElem?_cons_succ, List.getElem?_cons_zero]; rfl)
        case hsx19p => kernel_rfl
        case hfx19p => kernel_rfl
        case hrx19p => kernel_rfl
        case hQx19p => exact fun _ _ _ h => h
        case hwx19p => rfl
        case hyx19p =>
          intro W hW
          go_simp
          try with_reducible rfl
        simp only [Act.put, List.setIfInBounds_toArray, List.set_cons_succ, List.set_cons_zero]
        refine' wpAnyH_take (i := 20) ?h1x20p ?hsx20p ?hfx20p ?hrx20p ?hQx20p (Or.inl ⟨?hwx20p, ?hyx20p⟩) hS ?restx20p
        case h1x20p => (simp only [List.getElem?_toArray, List.getElem?_cons_succ, List.getElem?_cons_zero]; rfl)
        case hsx20p => kernel_rfl
        case hfx20p => kernel_rfl
        case hrx20p => kernel_rfl
        case hQx20p => exact fun _ _ _ h => h
        case hwx20p => rfl
        case hyx20p =>
          intro W hW
          go_simp
          try with_reducible rfl
        simp only [Act.put, List.setIfInBounds_toArray, List.set_cons_succ, List.set_cons_zero]
        refine wpAnyH_done (by kernel_rfl) ?_ _
        go_wp2_with fail
        go_ret
        exact ⟨rfl, B6.out.trans (hS.mono B6.out.size)⟩
      · have hjl' : ¬ (j : Int) < cs.length := by omega
        have hni : (n : Int) ≤ xs.length := by omega
        clear hlt hj2
        have hcc := cut_l HA.out n hn
        obtain ⟨y, k, hcut, hsee⟩ := hcc
        have hpp : puts (puts h0 (xs.take n)) (xs.drop n) = puts h0 xs := by rw [← puts_append, List.take_append_drop]
        have hdl : (xs.drop n).length = xs.length - n := List.length_drop
        have hwr : Calls Tryd.prog 19 #[.pointer (some ⟨w.heap.size, 0, none⟩), .slice y (xs.length - n) k] wr (fun e w' => e = .returned (.int .i64 0) ∧ HSat w' w.heap.size (puts h0 xs) ((xs.length : Nat) : Int) ∧ wr.grownBy w' (some w.heap.size)) :=
          (write w.heap.size _ n _ _ wr HST.out (hsee.below HB.out) (fun h0 => sees_lt hsee h0 _ (Nat.le_refl _)) (by rw [hdl]; omega) H2W.out (HGL.out.below HB.out H2W.out)).mono fun e w' h => by
            unfold WriteP at h
            rw [hpp, hdl, show n + (xs.length - n) = xs.length by omega] at h
            exact h
        have HWR := Lib.hid hwr
        clear hsee hpp hdl hwr
        go_wp2_with fail
        refine HWR.out.mono ?_
        rintro e w2 ⟨rfl, hst2, hg2⟩
        have ST2 := Lib.hid hst2
        have B2 : Hid (Below w.heap.size w w2) := HB.out.grown hg2 HB.out.size (fun k e => by rw [← Option.some.inj e]; exact Nat.le_refl _)
        clear hst2 hg2 hcut
        go_wp2_with fail
        refine (SH.out w2 w.heap.size ST2.out (HGL.out.below B2.out H2W.out)).mono ?_
        rintro e w3 ⟨rfl, hb⟩
        have st4 := (ST2.out.below hb).below (((Below.refl _ _).alloc (Nat.le_refl _) (.cells Z27 27)).trans (below_row _ (bcells A) (Nat.le_refl _)))
        have B3 := B2.out.trans (hb.mono B2.out.size)
        have B4 : Hid (Below w.heap.size w ((w3.alloc (.cells Z27 27)).setRow w3.heap.size (bcells A))) := (B3.alloc B3.size _).trans (below_row _ _ B3.size)
        have r4 : Row27 ((w3.alloc (.cells Z27 27)).setRow w3.heap.size (bcells A)) w3.heap.size A := setRow_heap _ _ _ _ _ _ (heap_alloc_new w3 _)
        have ST4 := Lib.hid st4
        have R4 := Lib.hid r4
        clear hb st4 r4 B3
        go_wp2_with (refine wpList_store_row rfl 27 (.tmp 9) (.tmp 74) rfl w3.heap.size (bcells A) rfl rfl 27 Z27 (heap_alloc_new w3 _) IA.out ZA.out OA.out ?_)
        generalize (w3.alloc (.cells Z27 27)).setRow w3.heap.size (bcells A) = w4 at ST4 R4 B4 ⊢
        refine (SH.out w4 w.heap.size ST4.out (HGL.out.below B4.out H2W.out)).mono ?_
        rintro e w5 ⟨rfl, hb⟩
        have q6 : Below w5.heap.size w5 ((w5.alloc (.cells Z27 27)).setRow w5.heap.size (bcells A)) := ((Below.refl _ _).alloc (Nat.le_refl _) _).trans (below_row _ _ (Nat.le_refl _))
        have B5 := B4.out.trans (hb.mono B4.out.size)
        have B6 : Hid (Below w.heap.size w ((w5.alloc (.cells Z27 27)).setRow w5.heap.size (bcells A))) := B5.trans (q6.mono B5.size)
        have r6 : Row27 ((w5.alloc (.cells Z27 27)).setRow w5.heap.size (bcells A)) w5.heap.size A := setRow_heap _ _ _ _ _ _ (heap_alloc_new w5 _)
        have R5 := Lib.hid ((R4.out.below hb).below q6)
        have R6 := Lib.hid r6
        clear hb q6 B5 r6
        go_wp2_with (refine wpList_store_row rfl 27 (.tmp 11) (.tmp 79) rfl w5.heap.size (bcells A) rfl rfl 27 Z27 (heap_alloc_new w5 _) IA.out ZA.out OA.out ?_)
        generalize (w5.alloc (.cells Z27 27)).setRow w5.heap.size (bcells A) = w6 at R5 R6 B6 ⊢
        have eq := EQ.out
        refine wp_region_held_drew (S := fun W => Below w6.heap.size w6 W) (by kernel_rfl) (Below.refl _ _).drew (fun hS => ?_)
        refine wpAnyH_ready (rs := [0]) (by kernel_rfl) (by simp) ?_
        refine' AllReadyH.cons ?hoc0q (fun K hK => ?stc0q) AllReadyH.nil
        case hoc0q => (simp only [List.getElem?_toArray, List.getElem?_cons_zero]; rfl)
        go_simp
        refine (alive _ (HGL.out.below (B6.out.trans (hS.mono B6.out.size)) H2W.out)).mono ?_
        rintro e w7 ⟨rfl, hb⟩
        go_wp2_with fail
        refine hK.out _ _ (hS.trans (hb.mono hS.size)) (fun hHeld => ?_)
        clear hK K
        try simp only [Act.put, List.setIfInBounds_toArray, List.set_cons_succ, List.set_cons_zero]
        clear hS hb
        have hS := hHeld
        clear hHeld
        refine' wpAnyH_take (i := 1) ?h1x1q ?hsx1q ?hfx1q ?hrx1q ?hQx1q (Or.inl ⟨?hwx1q, ?hyx1q⟩) hS ?restx1q
        case h1x1q => (simp only [List.getElem?_toArray, List.getElem?_cons_succ, List.getElem?_cons_zero]; rfl)
        case hsx1q => kernel_rfl
        case hfx1q => kernel_rfl
        case hrx1q => kernel_rfl
        case hQx1q => exact fun _ _ _ h => h
        case hwx1q => rfl
        case hyx1q =>
          intro W hW
          go_simp
          try with_reducible rfl
        simp only [Act.put, List.setIfInBounds_toArray, List.set_cons_succ, List.set_cons_zero]
        refine' wpAnyH_take (i := 2) ?h1x2q ?hsx2q ?hfx2q ?hrx2q ?hQx2q (Or.inl ⟨?hwx2q, ?hyx2q⟩) hS ?restx2q
        case h1x2q => (simp only [List.getElem?_toArray, List.getElem?_cons_succ, List.getElem?_cons_zero]; rfl)
        case hsx2q => kernel_rfl
        case hfx2q => kernel_rfl
        case hrx2q => kernel_rfl
        case hQx2q => exact fun _ _ _ h => h
        case hwx2q => rfl
        case hyx2q =>
          intro W hW
          go_simp
          try with_reducible rfl
        simp only [Act.put, List.setIfInBounds_toArray, List.set_cons_succ, List.set_cons_zero]
        refine' wpAnyH_take (i := 3) ?h1x3q ?hsx3q ?hfx3q ?hrx3q ?hQx3q (Or.inl ⟨?hwx3q, ?hyx3q⟩) hS ?restx3q
        case h1x3q => (simp only [List.getElem?_toArray, List.getElem?_cons_succ, List.getElem?_cons_zero]; rfl)
        case hsx3q => kernel_rfl
        case hfx3q => kernel_rfl
        case hrx3q => kernel_rfl
        case hQx3q => exact fun _ _ _ h => h
        case hwx3q => rfl
        case hyx3q =>
          intro W hW
          go_simp
          try with_reducible rfl
        simp only [Act.put, List.setIfInBounds_toArray, List.set_cons_succ, List.set_cons_zero]
        refine' wpAnyH_take (i := 4) ?h1x4q ?hsx4q ?hfx4q ?hrx4q ?hQx4q (Or.inl ⟨?hwx4q, ?hyx4q⟩) hS ?restx4q
        case h1x4q => (simp only [List.getElem?_toArray, List.getElem?_cons_succ, List.getElem?_cons_zero]; rfl)
        case hsx4q => kernel_rfl
        case hfx4q => kernel_rfl
        case hrx4q => kernel_rfl
        case hQx4q => exact fun _ _ _ h => h
        case hwx4q => rfl
        case hyx4q =>
          intro W hW
          go_simp
          try with_reducible rfl
        simp only [Act.put, List.setIfInBounds_toArray, List.set_cons_succ, List.set_cons_zero]
        refine' wpAnyH_take (i := 5) ?h1x5q ?hsx5q ?hfx5q ?hrx5q ?hQx5q (Or.inl ⟨?hwx5q, ?hyx5q⟩) hS ?restx5q
        case h1x5q => (simp only [List.getElem?_toArray, List.getElem?_cons_succ, List.getElem?_cons_zero]; rfl)
        case hsx5q => kernel_rfl
        case hfx5q => kernel_rfl
        case hrx5q => kernel_rfl
        case hQx5q => exact fun _ _ _ h => h
        case hwx5q => rfl
        case hyx5q =>
          intro W hW
          go_simp
          try with_reducible rfl
        simp only [Act.put, List.setIfInBounds_toArray, List.set_cons_succ, List.set_cons_zero]
        refine' wpAnyH_take (i := 6) ?h1x6q ?hsx6q ?hfx6q ?hrx6q ?hQx6q (Or.inl ⟨?hwx6q, ?hyx6q⟩) hS ?restx6q
        case h1x6q => (simp only [List.getElem?_toArray, List.getElem?_cons_succ, List.getElem?_cons_zero]; rfl)
        case hsx6q => kernel_rfl
        case hfx6q => kernel_rfl
        case hrx6q => kernel_rfl
        case hQx6q => exact fun _ _ _ h => h
        case hwx6q => rfl
        case hyx6q =>
          intro W hW
          go_simp
          try with_reducible rfl
        simp only [Act.put, List.setIfInBounds_toArray, List.set_cons_succ, List.set_cons_zero]
        refine' wpAnyH_take (i := 7) ?h1x7q ?hsx7q ?hfx7q ?hrx7q ?hQx7q (Or.inl ⟨?hwx7q, ?hyx7q⟩) hS ?restx7q
        case h1x7q => (simp only [List.getElem?_toArray, List.getElem?_cons_succ, List.getElem?_cons_zero]; rfl)
        case hsx7q => kernel_rfl
        case hfx7q => kernel_rfl
        case hrx7q => kernel_rfl
        case hQx7q => exact fun _ _ _ h => h
        case hwx7q => rfl
        case hyx7q =>
          intro W hW
          go_simp
          try with_reducible rfl
        simp only [Act.put, List.setIfInBounds_toArray, List.set_cons_succ, List.set_cons_zero]
        refine' wpAnyH_take (i := 8) ?h1x8q ?hsx8q ?hfx8q ?hrx8q ?hQx8q (Or.inl ⟨?hwx8q, ?hyx8q⟩) hS ?restx8q
        case h1x8q => (simp only [List.getElem?_toArray, List.getElem?_cons_succ, List.getElem?_cons_zero]; rfl)
        case hsx8q => kernel_rfl
        case hfx8q => kernel_rfl
        case hrx8q => kernel_rfl
        case hQx8q => exact fun _ _ _ h => h
        case hwx8q => rfl
        case hyx8q =>
          intro W hW
          go_simp
          try with_reducible rfl
        simp only [Act.put, List.setIfInBounds_toArray, List.set_cons_succ, List.set_cons_zero]
        refine' wpAnyH_take (i := 9) ?h1x9q ?hsx9q ?hfx9q ?hrx9q ?hQx9q (Or.inl ⟨?hwx9q, ?hyx9q⟩) hS ?restx9q
        case h1x9q => (simp only [List.getElem?_toArray, List.getElem?_cons_succ, List.getElem?_cons_zero]; rfl)
        case hsx9q => kernel_rfl
        case hfx9q => kernel_rfl
        case hrx9q => kernel_rfl
        case hQx9q => exact fun _ _ _ h => h
        case hwx9q => rfl
        case hyx9q =>
          intro W hW
          go_simp
          try with_reducible rfl
        simp only [Act.put, List.setIfInBounds_toArray, List.set_cons_succ, List.set_cons_zero]
        refine' wpAnyH_take (i := 10) ?h1x10q ?hsx10q ?hfx10q ?hrx10q ?hQx10q (yieldsIf_load_mid ?hwx10q 27 (.tmp 9) ?hopx10q w3.heap.size 0 rfl (bcells A).toList _ (fun W hW => (R5.out.below hW).range) Tryd.underlying27 rfl ?hix10q) hS ?restx10q
        case h1x10q => (simp only [List.getElem?_toArray, List.getElem?_cons_succ, List.getElem?_cons_zero]; rfl)
        case hopx10q => rfl
        case hsx10q => kernel_rfl
        case hfx10q => kernel_rfl
        case hrx10q => kernel_rfl
        case hQx10q => exact fun _ _ _ h => h
        case hwx10q => rfl
        case hix10q => exact LL.out
        simp only [Act.put, List.setIfInBounds_toArray, List.set_cons_succ, List.set_cons_zero]
        refine' wpAnyH_take (i := 11) ?h1x11q ?hsx11q ?hfx11q ?hrx11q ?hQx11q (yieldsIf_load_mid ?hwx11q 27 (.tmp 11) ?hopx11q w5.heap.size 0 rfl (bcells A).toList _ (fun W hW => (R6.out.below hW).range) Tryd.underlying27 rfl ?hix11q) hS ?restx11q
        case h1x11q => (simp only [List.getElem?_toArray, List.getElem?_cons_succ, List.getElem?_cons_zero]; rfl)
        case hopx11q => rfl
        case hsx11q => kernel_rfl
        case hfx11q => kernel_rfl
        case hrx11q => kernel_rfl
        case hQx11q => exact fun _ _ _ h => h
        case hwx11q => rfl
        case hix11q => exact LL.out
        simp only [Act.put, List.setIfInBounds_toArray, List.set_cons_succ, List.set_cons_zero]
        refine' wpAnyH_take (i := 12) ?h1x12q ?hsx12q ?hfx12q ?hrx12q ?hQx12q (Or.inl ⟨?hwx12q, ?hyx12q⟩) hS ?restx12q
        case h1x12q => (simp only [List.getElem?_toArray, List.getElem?_cons_succ, List.getElem?_cons_zero]; rfl)
        case hsx12q => kernel_rfl
        case hfx12q => kernel_rfl
        case hrx12q => kernel_rfl
        case hQx12q => exact fun _ _ _ h => h
        case hwx12q => rfl
        case hyx12q =>
          intro W hW
          go_simp
          try with_reducible rfl
        simp only [Act.put, List.setIfInBounds_toArray, List.set_cons_succ, List.set_cons_zero]
        refine' wpAnyH_take (i := 13) ?h1x13q ?hsx13q ?hfx13q ?hrx13q ?hQx13q (Or.inl ⟨?hwx13q, ?hyx13q⟩) hS ?restx13q
        case h1x13q => (simp only [List.getElem?_toArray, List.getElem?_cons_succ, List.getElem?_cons_zero]; rfl)
        case hsx13q => kernel_rfl
        case hfx13q => kernel_rfl
        case hrx13q => kernel_rfl
        case hQx13q => exact fun _ _ _ h => h
        case hwx13q => rfl
        case hyx13q =>
          intro W hW
          go_simp
          try with_reducible rfl
        simp only [Act.put, List.setIfInBounds_toArray, List.set_cons_succ, List.set_cons_zero]
        refine' wpAnyH_take (i := 14) ?h1x14q ?hsx14q ?hfx14q ?hrx14q ?hQx14q (Or.inl ⟨?hwx14q, ?hyx14q⟩) hS ?restx14q
        case h1x14q => (simp only [List.getElem?_toArray, List.getElem?_cons_succ, List.getElem?_cons_zero]; rfl)
        case hsx14q => kernel_rfl
        case hfx14q => kernel_rfl
        case hrx14q => kernel_rfl
        case hQx14q => exact fun _ _ _ h => h
        case hwx14q => rfl
        case hyx14q =>
          intro W hW
          go_simp
          try with_reducible rfl
        simp only [Act.put, List.setIfInBounds_toArray, List.set_cons_succ, List.set_cons_zero]
        refine' wpAnyH_take (i := 15) ?h1x15q ?hsx15q ?hfx15q ?hrx15q ?hQx15q (yieldsIf_load_mid ?hwx15q 27 (.tmp 9) ?hopx15q w3.heap.size 0 rfl (bcells A).toList _ (fun W hW => (R5.out.below hW).range) Tryd.underlying27 rfl ?hix15q) hS ?restx15q
        case h1x15q => (simp only [List.getElem?_toArray, List.getElem?_cons_succ, List.getElem?_cons_zero]; rfl)
        case hopx15q => rfl
        case hsx15q => kernel_rfl
        case hfx15q => kernel_rfl
        case hrx15q => kernel_rfl
        case hQx15q => exact fun _ _ _ h => h
        case hwx15q => rfl
        case hix15q => exact LL.out
        simp only [Act.put, List.setIfInBounds_toArray, List.set_cons_succ, List.set_cons_zero]
        refine' wpAnyH_take (i := 16) ?h1x16q ?hsx16q ?hfx16q ?hrx16q ?hQx16q (Or.inl ⟨?hwx16q, ?hyx16q⟩) hS ?restx16q
        case h1x16q => (simp only [List.getElem?_toArray, List.getElem?_cons_succ, List.getElem?_cons_zero]; rfl)
        case hsx16q => kernel_rfl
        case hfx16q => kernel_rfl
        case hrx16q => kernel_rfl
        case hQx16q => exact fun _ _ _ h => h
        case hwx16q => rfl
        case hyx16q =>
          intro W hW
          go_simp
          try with_reducible rfl
        simp only [Act.put, List.setIfInBounds_toArray, List.set_cons_succ, List.set_cons_zero]
        refine wpAnyH_ready (rs := [17]) (by kernel_rfl) (by simp) ?_
        refine' AllReadyH.cons ?hoc17q (fun K hK => ?stc17q) AllReadyH.nil
        case hoc17q => (simp only [List.getElem?_toArray, List.getElem?_cons_succ, List.getElem?_cons_zero]; rfl)
        go_simp
        refine (SM.out _ _ (HGL.out.below (B6.out.trans (hS.mono B6.out.size)) H2W.out) (HA.out.below (B6.out.trans (hS.mono B6.out.size)))).mono ?_
        rintro e w8 ⟨rfl, hb⟩
        go_wp2_with fail
        refine hK.out _ _ (hS.trans (hb.mono hS.size)) (fun hHeld => ?_)
        clear hK K
        try simp only [Act.put, List.setIfInBounds_toArray, List.set_cons_succ, List.set_cons_zero]
        clear hS hb
        have hS := hHeld
        clear hHeld
        refine' wpAnyH_take (i := 18) ?h1x18q ?hsx18q ?hfx18q ?hrx18q ?hQx18q (Or.inl ⟨?hwx18q, ?hyx18q⟩) hS ?restx18q
        case h1x18q => (simp only [List.getElem?_toArray, List.getElem?_cons_succ, List.getElem?_cons_zero]; rfl)
        case hsx18q => kernel_rfl
        case hfx18q => kernel_rfl
        case hrx18q => kernel_rfl
        case hQx18q => exact fun _ _ _ h => h
        case hwx18q => rfl
        case hyx18q =>
          intro W hW
          go_simp
          try with_reducible rfl
        simp only [Act.put, List.setIfInBounds_toArray, List.set_cons_succ, List.set_cons_zero]
        refine' wpAnyH_take (i := 19) ?h1x19q ?hsx19q ?hfx19q ?hrx19q ?hQx19q (Or.inl ⟨?hwx19q, ?hyx19q⟩) hS ?restx19q
        case h1x19q => (simp only [List.getElem?_toArray, List.getElem?_cons_succ, List.getElem?_cons_zero]; rfl)
        case hsx19q => kernel_rfl
        case hfx19q => kernel_rfl
        case hrx19q => kernel_rfl
        case hQx19q => exact fun _ _ _ h => h
        case hwx19q => rfl
        case hyx19q =>
          intro W hW
          go_simp
          try with_reducible rfl
        simp only [Act.put, List.setIfInBounds_toArray, List.set_cons_succ, List.set_cons_zero]
        refine' wpAnyH_take (i := 20) ?h1x20q ?hsx20q ?hfx20q ?hrx20q ?hQx20q (Or.inl ⟨?hwx20q, ?hyx20q⟩) hS ?restx20q
        case h1x20q => (simp only [List.getElem?_toArray, List.getElem?_cons_succ, List.getElem?_cons_zero]; rfl)
        case hsx20q => kernel_rfl
        case hfx20q => kernel_rfl
        case hrx20q => kernel_rfl
        case hQx20q => exact fun _ _ _ h => h
        case hwx20q => rfl
        case hyx20q =>
          intro W hW
          go_simp
          try with_reducible rfl
        simp only [Act.put, List.setIfInBounds_toArray, List.set_cons_succ, List.set_cons_zero]
        refine wpAnyH_done (by kernel_rfl) ?_ _
        go_wp2_with fail
        go_ret
        exact ⟨rfl, B6.out.trans (hS.mono B6.out.size)⟩
theorem walkI (va vb : Value) (xs cs : List Int) (w : World) (hG : Glob w) (ha : Sees w va xs) (hb : Sees w vb cs) :
    Calls Tryd.prog 5 #[va, vb] w fun e w' => e = .returned (.bool true) ∧ Below w.heap.size w w' := by
  by_cases h : 3000 < xs.length
  · exact walk_great va vb xs cs w hG ha hb h
  · exact walk va vb xs cs w hG ha hb (by omega)

set_option maxRecDepth 100000 in
theorem lifted (os : Os) (started : os.Started) (H : Type) (enc : TypeId × Value → H) :
    ReturnsInHanded {} Tryd.checked os 5 .any (fun w args => (Rows.shaPiecesSpec.pre enc Tryd.prog Tryd.f5 [] false w args ∧ laidMetH Tryd.prog laid2 w) ∧ sizedMet enc Tryd.prog Tryd.f5 (OpenSpec.ofChange Rows.shaPiecesSpec) false w args)
      (Rows.shaPiecesSpec.post enc Tryd.prog Tryd.f5 false true false false) := by
  refine returnsInHanded_of_change_and (C := Tryd.checked) (X := fun w _ => laidMetH Tryd.prog laid2 w) (fun _ _ _ hh h => h.of_heap hh) own started (by kernel_rfl) Tryd.func5
    (ChangeSpec.witness_shaped (enc := enc) (C := Tryd.checked) (os := os) (X := fun w _ => laidMetH Tryd.prog laid2 w) false (World.doorLaid Tryd.prog 400 os) #[.slice none 0 0, .slice none 0 0] 8 rfl (World.shaped_of_RefB (by kernel_rfl) (by kernel_rfl)) (by kernel_rfl) (by kernel_rfl) (by kernel_rfl) (door_met os _)) ?_
  intro W base args ds gs before hval0 hW _ _ hL _
  have hval : ∀ (j : Nat) t v, Tryd.f5.params[j]? = some t → args[j]? = some v → Value.okWide Tryd.prog W .any base t v := hval0
  have hW' := hW
  obtain ⟨p, q, hA0, hV, rfl, hfz, hnd⟩ := hW
  have hA : DataW.TrodAll enc Tryd.prog W 0 (fun _ => true) true Tryd.f5.params.toList args.toList ds p := hA0
  rw [Tryd.params5] at hA hval
  obtain ⟨v0, vs0, d0, ds0, p0, q0, hargs, rfl, rfl, h0, r0⟩ := trodAll_cons hA
  obtain ⟨v1, vs1, d1, ds1, p1, q1, rfl, rfl, rfl, h1, r1⟩ := trodAll_cons r0
  obtain ⟨rfl, rfl, rfl⟩ := trodAll_nil r1
  obtain rfl : args = #[v0, v1] := by cases args; simp_all
  obtain ⟨rfl, rfl⟩ := trodVars_none hV
  obtain ⟨x0, s0⟩ := open_sees (hval 0 22 v0 rfl rfl) h0
  obtain ⟨x1, s1⟩ := open_sees (hval 1 22 v1 rfl rfl) h1
  refine (walkI v0 v1 x0 x1 W (of_laid hL) s0 s1).mono fun e W' ⟨he, hb⟩ => ?_
  subst he
  exact ⟨_, rfl, law_post hW' rfl rfl rfl (by kernel_rfl) hb⟩
/-- The row's statement. -/
theorem row_holds : Rows.ShaPiecesSaid :=
  OpenClaim.holds_of_wide 5 Tryd.f5 rfl rfl rfl rfl rfl rfl rfl ⟨rfl, rfl, rfl, rfl, rfl⟩ rfl rfl rfl rfl rfl (by kernel_rfl) Tryd.func5 (by kernel_rfl)
    (of_decide_eq_true (by kernel_rfl)) (by unfold Func.isWrapper; first | (rw [if_pos (by decide +kernel)]; kernel_rfl) | (rw [if_neg (by decide +kernel)]; exact ⟨rfl, rfl⟩))
    (fun os started H enc _ => lifted os started H enc)
/-- The tied card. -/
theorem proved : Rows.ShaPiecesCardSaid :=
  Claim7.holds_tied_plain_at .later [] [.data, .data] true (true, "c1a692658ed27d6b705437531a4023b4f004fc9067d80523147904b9ccf5c916") false
    row_holds (fun _ h => by cases h) (by kernel_rfl) (fun _ h => by cases h) shaPieces_row_tie rfl ⟨rfl, rfl⟩ (by kernel_rfl) rfl
    (fun f fn hf hfn => by
      obtain rfl : f = 5 := Option.some.inj ((show Tryd.prog.funcNamed "casemate/casematelaw02.ShaPieces" = some 5 by kernel_rfl).symm.trans hf) |>.symm
      obtain rfl : fn = Tryd.f5 := (Option.some.inj (Tryd.func5.symm.trans hfn)).symm
      exact ⟨by kernel_rfl, fun j t ht => by
        rw [Tryd.params5] at ht
        have hm : t ∈ [22, 22] := by simpa using Array.mem_of_getElem? ht
        have hall : ([22, 22].all fun u => !Tryd.prog.wantsStandIn u) = true := by kernel_rfl
        exact (show Tryd.prog.wantsStandIn t = false by simpa using List.all_eq_true.1 hall t hm)⟩)
    (by kernel_rfl)
#print axioms proved
end Go.Proofs.YtmkaagiabafooaaDoor.shaPieces
