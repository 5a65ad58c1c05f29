/-
  Contracts of the document's own functions of package aes: all columns, a round key, a block turned. Condition: the numbers are bytes.
-/
import Derived.Test.YtekffhopmicalaaRefB
namespace Go.Proofs.Ytekffhopmicalaa
open Go.RowKit
theorem sl_part (b o l cap i j : Nat) (hij : i < j) (hj : j ≤ l) (hc : l ≤ cap) (W : World) : (Instr.slice 28 (.slice (some ⟨b, o, none⟩) l cap) (some (.int .i64 i)) (some (.int .i64 j)) none).run Try.prog W = .ok (.slice (some ⟨b, o + i, none⟩) (j - i) (cap - i)) W := by
  rw [run_slice_lh W 28 (some ⟨b, o, none⟩) l cap (by kernel_rfl) .i64 .i64 i j (by omega) (by omega) (by omega), size5']
  have e : ¬ cap = i := by omega
  simp [Result.andThen, sliced, e, addr_add]
theorem coll_mx (f0 f1 f2 f3 : Nat) (h0 : f0 < 256) (h1 : f1 < 256) (h2 : f2 < 256) (h3 : f3 < 256) {xs : List Nat} (hx : Bts 16 xs) (c : Nat) (hc : c < 4) : coll [f0, f1, f2, f3] ((xs.drop (4 * c)).take 4) = tab 4 fun i => at_ (mx f0 f1 f2 f3 xs) (4 * c + i) := by
  have hp : ∀ j, j < 4 → at_ ((xs.drop (4 * c)).take 4) j = at_ xs (4 * c + j) := fun j hj => by simp [at_, List.getD, hj]
  unfold coll
  refine tab_congr fun i hi => ?_
  rw [mx_at f0 f1 f2 f3 xs (4 * c) i (by omega) (by omega) hi]
  show Nat.xor (Nat.xor (Nat.xor (Nat.xor 0 (mul f0 _)) (mul f1 _)) (mul f2 _)) (mul f3 _) = _
  rw [zx, Nat.add_zero, hp _ (Nat.mod_lt _ (by omega)), hp _ (Nat.mod_lt _ (by omega)), hp _ (Nat.mod_lt _ (by omega)), hp _ (Nat.mod_lt _ (by omega))]
  rw [comm h0 (hx.at_lt _), comm h1 (hx.at_lt _), comm h2 (hx.at_lt _), comm h3 (hx.at_lt _)]
theorem tab_add (n m : Nat) (f : Nat → Nat) : tab n f ++ tab m (fun i => f (n + i)) = tab (n + m) f := by
  unfold tab
  rw [List.range_add, List.map_append, List.map_map]
  rfl
set_option maxRecDepth 100000 in
set_option maxHeartbeats 4000000 in
theorem refColumns (f0 f1 f2 f3 : Nat) (h0 : f0 < 256) (h1 : f1 < 256) (h2 : f2 < 256) (h3 : f3 < 256) (x : Option Addr) (cap : Nat) (xs : List Nat) (y : Option Addr) (cy : Nat) (w : World) (hX : Bts 16 xs) (hs : Sees w (.slice x 16 cap) xs) (hy : Sees w (.slice y 4 cy) [f0, f1, f2, f3]) :
    Calls Try.prog 53 #[.slice x 16 cap, .slice y 4 cy] w (OwnP w (mx f0 f1 f2 f3 xs)) := by
  obtain ⟨b, o, rfl, k1, k2, k3, hc⟩ := hs.at16 (by rw [hX.1]; omega)
  have LB : Hid (b < w.heap.size) := World.block_lt_of_cell? w _ (hc 0 (by rw [hX.1]; omega))
  have HC := Lib.hid hc
  have HX := Lib.hid hX
  have HY := Lib.hid hy
  have hcap := k2
  have HCM := Lib.hid k3
  have hl : Hid ((mx f0 f1 f2 f3 xs).length = 16) := tab_len _ _
  have CM : Hid (∀ c, c < 4 → coll [f0, f1, f2, f3] ((xs.drop (4 * c)).take 4) = tab 4 fun i => at_ (mx f0 f1 f2 f3 xs) (4 * c + i)) := fun c hc => coll_mx f0 f1 f2 f3 h0 h1 h2 h3 hX c hc
  have HF : Hid (Bts 4 [f0, f1, f2, f3]) := ⟨rfl, fun z hz => by simp at hz; omega⟩
  have MS : Hid (tab 16 (at_ (mx f0 f1 f2 f3 xs)) = mx f0 f1 f2 f3 xs) := tab_self 16 _ (tab_len _ _)
  generalize mx f0 f1 f2 f3 xs = M at *
  generalize [f0, f1, f2, f3] = ff at *
  clear k1 k2 k3 hc hs hy hX h0 h1 h2 h3
  go_enter Try.func53, Try.ntmps53
  go_wp2_with fail
  go_loopw [5, 6] (fun v vi wr => ∃ (c : Nat) (q : Option Addr) (cp : Nat), c ≤ 4 ∧ vi = .int .i64 ((4 * c : Nat) : Int) ∧ v = .slice q (4 * c) cp ∧ Own wr w.heap.size (.slice q (4 * c) cp) (tab (4 * c) (at_ M)) ∧ Below w.heap.size w wr) (fun _ vi _ => 16 - (intOf vi).toNat)
  case atStart => exact ⟨0, none, 0, by omega, rfl, rfl, own_nil _ _, Below.refl _ _⟩
  case round =>
    obtain ⟨c, q, cp, hi, rfl, rfl, ho, hb⟩ := hrel
    by_cases hlt : c < 4
    · have cm := CM.out c hlt
      have sp : Sees wr (.slice (some ⟨b, o + 4 * c, none⟩) 4 (cap - 4 * c)) ((xs.drop (4 * c)).take 4) :=
        sees_part HX.out.2 (fun i hi => (hb.cell (p := ⟨b, o + i, none⟩) LB.out).trans (HC.out i hi)) (4 * c) 4 (by rw [HX.out.1]; omega) (by omega) _ (by omega) (by have := HCM.out; omega)
      have hp : Bts 4 ((xs.drop (4 * c)).take 4) := ⟨by rw [List.length_take, List.length_drop, HX.out.1]; omega, sp.1⟩
      have RC := Lib.hid (refColumn _ _ _ _ _ _ wr hp HF.out sp (HY.out.below hb))
      have hcl : (coll ff ((xs.drop (4 * c)).take 4)).length = 4 := tab_len _ _
      have HO := Lib.hid ho
      have HB := Lib.hid hb
      obtain ⟨i, hi4⟩ : ∃ i, i = 4 * c := ⟨_, rfl⟩
      have s1 := sl_part b o 16 cap i (i + 4) (by omega) (by omega) hcap
      rw [show i + 4 - i = 4 by omega] at s1
      have e4 : (((i + 4 : Nat) : Nat) : Int) = (i : Int) + 4 := by omega
      rw [e4] at s1
      rw [← hi4] at RC HO cm hcl ⊢
      have hi16 : (i : Int) < 16 := by omega
      have HI := Lib.hid hi4
      clear ho hb sp hp hi4 e4
      go_wp2_with fail
      refine (RC.out).mono ?_
      rintro e w2 ⟨q2, c2, rfl, ho2, hb2⟩
      rw [hcl] at ho2 ⊢
      have ho3 := (HO.out.below hb2)
      obtain ⟨q1, c1, w1, hrun, ho1, _, hb1⟩ := app ho3 ho2.sees (by rw [tab_len, hcl]; omega) (Nat.le_trans HB.out.size hb2.size)
      rw [tab_len, hcl] at hrun ho1
      have HR := Lib.hid hrun
      have HB1 := Lib.hid ((HB.out.trans (hb2.mono HB.out.size)).trans hb1)
      have HO1 : Hid (Own w1 w.heap.size (.slice q1 (i + 4) c1) (tab (i + 4) (at_ M))) := by
        rw [cm, tab_add i 4] at ho1
        exact ho1
      clear hrun ho1 hb1 ho3 ho2 hb2 cm hcl
      go_wp2_with (at_builtin; refine wpList_app rfl _ _ rfl rfl rfl rfl HR.out ?_)
      go_roundw
      case rel =>
        have e : i + 4 = 4 * (c + 1) := by have := HI.out; omega
        refine ⟨c + 1, q1, c1, by omega, ?_, by rw [e], by rw [← e]; exact HO1.out, HB1.out⟩
        rw [← e]; congr 1
      case measure => simp [intOf]; omega
    · obtain rfl : c = 4 := by omega
      have HO : Hid (Own wr w.heap.size (.slice q 16 cp) M) := by rw [← MS.out]; exact ho
      have HB := Lib.hid hb
      clear ho hb
      go_wp2_with fail
      go_ret
      unfold OwnP
      rw [hl.out]
      exact ⟨q, cp, rfl, HO.out, HB.out⟩
/-- The words of a key lie behind block bw. -/
def SeesL (w : World) (bw n : Nat) (key : List Nat) : Prop := ∀ i, i < n → ∃ x c, w.cell? ⟨bw, i, none⟩ = some (.slice x 4 c) ∧ Sees w (.slice x 4 c) (lat (wk key 60) i)
theorem SeesL.below {w w' : World} {bw n : Nat} {key : List Nat} (h : SeesL w bw n key) (hb : Below w.heap.size w w') : SeesL w' bw n key := fun i hi => by
  obtain ⟨x, c, h1, h2⟩ := h i hi
  exact ⟨x, c, (hb.cell (p := ⟨bw, i, none⟩) (World.block_lt_of_cell? w _ h1)).trans h1, h2.below hb⟩
/-- The document's cipher of a key. -/
def RC (w : World) (g : Nat) (key : List Nat) : Prop := ∃ bw cw y cy z cz, w.heap[g]? = some (.cells #[.slice (some ⟨bw, 0, none⟩) 60 cw, .slice y 256 cy, .slice z 256 cz] 34 (0, 0)) ∧ SeesL w bw 60 key ∧ Sees w (.slice y 256 cy) bxs ∧ Sees w (.slice z 256 cz) kxs
theorem RC.below {w w' : World} {g : Nat} {key : List Nat} (h : RC w g key) (hb : Below w.heap.size w w') : RC w' g key := by
  obtain ⟨bw, cw, y, cy, z, cz, h1, h2, h3, h4⟩ := h
  exact ⟨bw, cw, y, cy, z, cz, (hb.block _ (blk_lt h1)).trans h1, h2.below hb, h3.below hb, h4.below hb⟩
set_option maxRecDepth 100000 in
set_option maxHeartbeats 4000000 in
theorem refRound (g : Nat) (key : List Nat) (r : Nat) (hr : r ≤ 14) (w : World) (hk : Bts 32 key) (hc : RC w g key) : Calls Try.prog 51 #[.pointer (some ⟨g, 0, none⟩), .int .i64 r] w (OwnP w (rkey key r)) := by
  obtain ⟨bw, cw, y, cy, z, cz, hg, hL, _, _⟩ := hc
  have HG := Lib.hid hg
  have LG := Lib.hid (blk_lt hg)
  have HL := Lib.hid hL
  have C0 : Hid (w.cell? ⟨g, 0, none⟩ = some (.slice (some ⟨bw, 0, none⟩) 60 cw)) := cell_of_row _ _ 0 _ _ _ hg
  have hl : Hid ((rkey key r).length = 16) := tab_len _ _
  have HW : Hid (∀ k, k < 4 → lat (wk key 60) (4 * r + k) = tab 4 fun i => at_ (rkey key r) (4 * k + i)) := fun k hk4 => by
    refine Eq.trans (tab_self 4 _ (nextw_bts4 hk (4 * r + k) (by omega)).1).symm (tab_congr fun i hi => ?_)
    rw [rkey, tab_at _ _ _ (by omega), show 4 * r + (4 * k + i) / 4 = 4 * r + k by omega, show (4 * k + i) % 4 = i by omega]
  have MS : Hid (tab 16 (at_ (rkey key r)) = rkey key r) := tab_self 16 _ (tab_len _ _)
  generalize rkey key r = M at *
  have hr14 : (r : Int) ≤ 14 := by omega
  clear hL hg hk
  go_enter Try.func51, Try.ntmps51
  go_wp2_with fail
  go_loopw [5, 6] (fun v vi wr => ∃ (k : Nat) (q : Option Addr) (cp : Nat), k ≤ 4 ∧ vi = .int .i64 ((4 * r + k : Nat) : Int) ∧ v = .slice q (4 * k) cp ∧ Own wr w.heap.size (.slice q (4 * k) cp) (tab (4 * k) (at_ M)) ∧ Below w.heap.size w wr) (fun _ vi _ => 4 * r + 4 - (intOf vi).toNat)
  case atStart => exact ⟨0, none, 0, by omega, by go_num, rfl, own_nil _ _, Below.refl _ _⟩
  case round =>
    obtain ⟨k, q, cp, hi, rfl, rfl, ho, hb⟩ := hrel
    by_cases hlt : k < 4
    · obtain ⟨j, hj⟩ : ∃ j, j = 4 * r + k := ⟨_, rfl⟩
      obtain ⟨x, c, hx, hsx⟩ := HL.out j (by omega)
      have hwk := HW.out k hlt
      rw [← hj] at hwk ⊢
      rw [hwk] at hsx
      have cx := (hb.cell (p := ⟨bw, j, none⟩) (World.block_lt_of_cell? w _ hx)).trans hx
      have c0 := (hb.cell (p := ⟨g, 0, none⟩) LG.out).trans C0.out
      have j1 : (j : Int) < 4 * (r : Int) + 4 := by omega
      have j60 : j < 60 := by omega
      obtain ⟨q1, c1, w1, hrun, ho1, _, hb1⟩ := app ho (hsx.below hb) (by rw [tab_len, tab_len]; omega) hb.size
      rw [tab_len, tab_len, tab_add] at ho1
      rw [tab_len, tab_len] at hrun
      have HR := Lib.hid hrun
      have HB1 := Lib.hid (hb.trans hb1)
      have HO1 := Lib.hid ho1
      have HJ := Lib.hid hj
      clear hrun ho1 hb1 ho hb hx hsx hj hwk
      go_wp2_with (at_builtin; refine wpList_app rfl _ _ rfl rfl rfl rfl HR.out ?_)
      go_roundw
      case rel =>
        refine ⟨k + 1, q1, c1, by omega, ?_, rfl, HO1.out, HB1.out⟩
        congr 1; have := HJ.out; omega
      case measure => simp [intOf]; omega
    · obtain rfl : k = 4 := by omega
      have HO : Hid (Own wr w.heap.size (.slice q 16 cp) M) := by rw [← MS.out]; exact ho
      have HB := Lib.hid hb
      have j1 : ¬ ((4 * r + 4 : Nat) : Int) < 4 * (r : Int) + 4 := by omega
      clear ho hb
      go_wp2_with fail
      go_ret
      unfold OwnP
      rw [hl.out]
      exact ⟨q, cp, rfl, HO.out, HB.out⟩
end Go.Proofs.Ytekffhopmicalaa
