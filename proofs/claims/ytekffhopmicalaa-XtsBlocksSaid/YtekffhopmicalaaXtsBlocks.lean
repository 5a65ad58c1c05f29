/-
  For all pairs of keys, tweaks and pairs of bytes the law XtsBlocks of package casematelaw06 returns true, and they read afterwards as before: each block of a sector hangs on its own bytes and its place alone. Condition: none.
-/
import Derived.Test.YtekffhopmicalaaSE
import Derived.Deep.QuietTactic
import Derived.BigQuiet
namespace Go.Proofs.Ytekffhopmicalaa.xtsBlocks
open Go.ChangeShapes Go.WideShapes Go.ChangeAt Go.RowKit
/-- The parts of a text are its blocks. -/
theorem part_blk {b : List Nat} {k : Nat} (h : 16 * k + 16 ≤ b.length) : (b.drop (16 * k)).take 16 = blk b k := by
  have l : ((b.drop (16 * k)).take 16).length = 16 := by rw [List.length_take, List.length_drop]; omega
  refine bts_ext l (tab_len _ _) fun i hi => ?_
  rw [blk, tab_at _ _ _ hi]
  simp [at_, List.getD, hi]
theorem sl_part (b o l cap i j : Nat) (hij : i < j) (hj : j ≤ l) (hc : l ≤ cap) (W : World) : (Instr.slice 28 (.slice (some ⟨b, o, none⟩) l cap) (some (.int .i64 i)) (some (.int .i64 j)) none).run Try.prog W = .ok (.slice (some ⟨b, o + i, none⟩) (j - i) (cap - i)) W := by
  rw [run_slice_lh W 28 (some ⟨b, o, none⟩) l cap (by kernel_rfl) .i64 .i64 i j (by omega) (by omega) (by omega), size5']
  have e : ¬ cap = i := by omega
  simp [Result.andThen, sliced, e, addr_add]
set_option maxRecDepth 100000 in
set_option maxHeartbeats 4000000 in
theorem walkNo (k1 k2 tw : List Nat) (x y : Option Addr) (L M cap cbp : Nat) (w : World) (h : 600 < L ∨ L ≠ M ∨ L = 0 ∨ L % 16 ≠ 0) (hm : L ≤ 9223372036854775807) (_hm2 : M ≤ 9223372036854775807) :
    Calls Try.prog 11 #[.agg (ncells k1), .agg (ncells k2), .agg (ncells tw), .slice x L cap, .slice y M cbp] w fun e w' => e = .returned (.bool true) ∧ Below w.heap.size w w' := by
  have HB : Hid (Below w.heap.size w (((w.alloc (.cells (ncells k1) 23)).alloc (.cells (ncells k2) 23)).alloc (.cells (ncells tw) 37))) := (((Below.refl _ _).alloc (Nat.le_refl _) _).alloc (by simp) _).alloc (by simp <;> omega) _
  have key : ∀ (hz : (600 : Int) < L ∨ (¬ (600 : Int) < L ∧ ((L : Int) != (M : Int)) = true ∧ ((L : Int) == (M : Int)) = false) ∨ (¬ (600 : Int) < L ∧ ((L : Int) != (M : Int)) = false ∧ ((L : Int) == (M : Int)) = true ∧ ((L : Int) == 0) = true) ∨ (¬ (600 : Int) < L ∧ ((L : Int) != (M : Int)) = false ∧ ((L : Int) == (M : Int)) = true ∧ ((L : Int) == 0) = false ∧ ∃ r : Nat, (L : Int) % 16 = r ∧ ((r : Int) == 0) = false ∧ ((r : Int) != 0) = true)),
      Calls Try.prog 11 #[.agg (ncells k1), .agg (ncells k2), .agg (ncells tw), .slice x L cap, .slice y M cbp] w fun e w' => e = .returned (.bool true) ∧ Below w.heap.size w w' := by
    clear h
    intro hz
    rcases hz with hz | ⟨ha, hz, hy⟩ | ⟨ha, hz, hy, hx⟩ | ⟨ha, hz, hy, hx, r, hr, hr0, hr1⟩
    all_goals
      go_enter Try.func11, Try.ntmps11
      go_wp2_with fail
      refine (alive6 _).mono ?_
      rintro e w4 ⟨rfl, hb⟩
      go_wp2_with fail
      go_ret
      exact ⟨rfl, HB.out.trans (hb.mono HB.out.size)⟩
  by_cases c1 : 600 < L
  · exact key (.inl (by omega))
  · by_cases c2 : L = M
    · by_cases c3 : L = 0
      · exact key (.inr (.inr (.inl ⟨by omega, by simp [c2], by simp [c2], by simp; omega⟩)))
      · exact key (.inr (.inr (.inr ⟨by omega, by simp [c2], by simp [c2], by simp; omega, L % 16, by omega, by simp; omega, by simp; omega⟩)))
    · exact key (.inr (.inl ⟨by omega, by simp; omega, by simp; omega⟩))
set_option maxRecDepth 100000 in
set_option maxHeartbeats 8000000 in
theorem walkYes (k1 k2 tw a b : List Nat) (h1 : Bts 32 k1) (h2 : Bts 32 k2) (ht : Bts 16 tw) (x y : Option Addr) (L cap cbp n : Nat) (w : World) (ha : Sees w (.slice x L cap) a) (hb' : Sees w (.slice y L cbp) b) (hLa : L = a.length) (hLb : L = b.length) (hl : L ≤ 600) (hn : L = 16 * n) (h0 : 0 < n) :
    Calls Try.prog 11 #[.agg (ncells k1), .agg (ncells k2), .agg (ncells tw), .slice x L cap, .slice y L cbp] w fun e w' => e = .returned (.bool true) ∧ Below w.heap.size w w' := by
  have NX : Hid (∀ W : World, Calls Try.prog 30 #[.agg (ncells k1), .agg (ncells k2)] W (NewX W (flat k1) (flat k2))) := fun W => newX _ _ h1 h2 W
  have hM : Bts 16 (enc k2 tw) := enc_bts h2 ht
  have TA : Hid (∀ (g : Nat) (W : World), XIat W g (flat k1) (flat k2) → Sees W (.slice x L cap) a → Calls Try.prog 31 #[.pointer (some ⟨g, 0, none⟩), .agg (ncells tw), .slice x L cap] W (SecP W L (sct (enc k1) (enc k2 tw) a n))) :=
    fun g W h hv => turnX k1 k2 tw a h1 h2 ht g L n x cap W h hv hLa hn h0 (by omega)
  have TB : Hid (∀ (g : Nat) (W : World), XIat W g (flat k1) (flat k2) → Sees W (.slice y L cbp) b → Calls Try.prog 31 #[.pointer (some ⟨g, 0, none⟩), .agg (ncells tw), .slice y L cbp] W (SecP W L (sct (enc k1) (enc k2 tw) b n))) :=
    fun g W h hv => turnX k1 k2 tw b h1 h2 ht g L n y cbp W h hv hLb hn h0 (by omega)
  have LIKE : Hid (∀ k, k < n → (decide (blk (sct (enc k1) (enc k2 tw) a n) k = blk (sct (enc k1) (enc k2 tw) b n) k) = decide (blk a k = blk b k))) := fun k hk => by
    rw [decide_eq_decide]
    exact sct_like hM ha.1 hb'.1 (fun _ h => enc_bts h1 h) (fun _ h => dec_enc h1 h) hk
  have yA : Byt (sct (enc k1) (enc k2 tw) a n) := sct_bts (fun _ h => enc_bts h1 h) hM ha.1 n
  have yB : Byt (sct (enc k1) (enc k2 tw) b n) := sct_bts (fun _ h => enc_bts h1 h) hM hb'.1 n
  have lA : (sct (enc k1) (enc k2 tw) a n).length = L := by rw [sct_len, hn]
  have lB : (sct (enc k1) (enc k2 tw) b n).length = L := by rw [sct_len, hn]
  have hane : a ≠ [] := fun e => by rw [e] at hLa; simp at hLa; omega
  have hbne : b ≠ [] := fun e => by rw [e] at hLb; simp at hLb; omega
  obtain ⟨ba, oa, rfl, ea, hca, hma, ca⟩ := ha.cells hane
  obtain ⟨bb, ob, rfl, eb, hcb, hmb, cb⟩ := hb'.cells hbne
  have YA := Lib.hid yA
  have YB := Lib.hid yB
  have LA := Lib.hid lA
  have LB := Lib.hid lB
  have HA := Lib.hid ha
  have HBB := Lib.hid hb'
  have HLA := Lib.hid hLa
  have HLB := Lib.hid hLb
  have HLN := Lib.hid hn
  have CA : Hid (ba < w.heap.size) := World.block_lt_of_cell? w _ (ca 0 (by omega))
  have CB : Hid (bb < w.heap.size) := World.block_lt_of_cell? w _ (cb 0 (by omega))
  have CCA := Lib.hid ca
  have CCB := Lib.hid cb
  have K1 := Lib.hid h1.1
  have K2 := Lib.hid h2.1
  have TL := Lib.hid ht.1
  have hL : ¬ (600 : Int) < L := by omega
  have z0 : ((L : Int) == 0) = false := by simp; omega
  have z1 : (L : Int) % 16 = 0 := by omega
  have hl600 : (L : Int) ≤ 600 := by omega
  obtain ⟨W0, hW0⟩ : ∃ W0, W0 = ((w.alloc (.cells (ncells k1) 23)).alloc (.cells (ncells k2) 23)).alloc (.cells (ncells tw) 37) := ⟨_, rfl⟩
  have HB : Hid (Below w.heap.size w W0) := by rw [hW0]; exact (((Below.refl _ _).alloc (Nat.le_refl _) _).alloc (by simp) _).alloc (by simp <;> omega) _
  have G0 : Hid (W0.heap[w.heap.size]? = some (.cells (ncells k1) 23 (0, 0))) := by show _ = _; rw [hW0, Below.heap_alloc _ _ _ (by simp <;> omega), Below.heap_alloc _ _ _ (by simp)]; exact heap_alloc_new w _
  have G1 : Hid (W0.heap[w.heap.size + 1]? = some (.cells (ncells k2) 23 (0, 0))) := by show _ = _; rw [hW0, Below.heap_alloc _ _ _ (by simp)]; exact heap_alloc2_new w _ _
  have G2 : Hid (W0.heap[w.heap.size + 1 + 1]? = some (.cells (ncells tw) 37 (0, 0))) := by
    show _ = _
    rw [hW0]
    have := heap_alloc_new ((w.alloc (.cells (ncells k1) 23)).alloc (.cells (ncells k2) 23)) (.cells (ncells tw) 37)
    simpa using this
  have HW0 := Lib.hid hW0
  generalize sct (enc k1) (enc k2 tw) a n = J1 at *
  generalize sct (enc k1) (enc k2 tw) b n = J2 at *
  generalize flat k1 = F1 at *
  generalize flat k2 = F2 at *
  clear hn h1 h2 ht hl hW0 hM yA yB lA lB ha hb' hLa hLb h0 hane hbne ea eb ca cb
  go_enter Try.func11, Try.ntmps11
  go_wp2_with (first
    | (refine wpList_load_row rfl 23 (.tmp 5) rfl w.heap.size rfl 23 (ncells k1) (0, 0) _ (by rw [← HW0.out]; exact G0.out) Try.underlying23 rfl (i23 K1.out) ?_)
    | (refine wpList_load_row rfl 23 (.tmp 6) rfl (w.heap.size + 1) rfl 23 (ncells k2) (0, 0) _ (by rw [← HW0.out]; exact G1.out) Try.underlying23 rfl (i23 K2.out) ?_))
  rw [← HW0.out]
  refine (NX.out _).mono ?_
  rintro e w1 ⟨g, rfl, hx, hb⟩
  have X1 := Lib.hid hx
  have B1 := Lib.hid (HB.out.trans (hb.mono HB.out.size))
  have G21 := Lib.hid ((hb.block _ (blk_lt G2.out)).trans G2.out)
  clear hx hb HB G0 G1 G2 HW0 NX
  go_wp2_with (first
    | (refine wpList_load_row rfl 37 (.tmp 7) rfl (w.heap.size + 1 + 1) rfl 37 (ncells tw) (0, 0) _ G21.out Try.underlying37 rfl (i47 TL.out) ?_))
  refine (TA.out _ _ X1.out (HA.out.below B1.out)).mono ?_
  rintro e w2 ⟨q1, rfl, hq, hr, hb⟩
  have X2 := Lib.hid (X1.out.below hb)
  have B2 := Lib.hid (B1.out.trans (hb.mono B1.out.size))
  have G22 := Lib.hid ((hb.block _ (blk_lt G21.out)).trans G21.out)
  have R2 := Lib.hid hr
  clear hq hr hb X1 B1 G21 TA
  go_wp2_with (first
    | (refine wpList_load_row rfl 37 (.tmp 7) rfl (w.heap.size + 1 + 1) rfl 37 (ncells tw) (0, 0) _ G22.out Try.underlying37 rfl (i47 TL.out) ?_))
  refine (TB.out _ _ X2.out (HBB.out.below B2.out)).mono ?_
  rintro e w3 ⟨q2, rfl, hq, hr, hb⟩
  have B3 := Lib.hid (B2.out.trans (hb.mono B2.out.size))
  have R3 := Lib.hid ((hb.block _ (blk_lt R2.out)).trans R2.out)
  have U3 := Lib.hid hr
  clear hq hr hb X2 B2 G22 R2 TB
  go_wp2_with fail
  go_loopw [16] (fun vi wr => ∃ k : Nat, k ≤ n ∧ vi = .int .i64 ((16 * k : Nat) : Int) ∧ wr.heap[q1]? = some (.cells (ncells J1) 5 (0, 0)) ∧ wr.heap[q2]? = some (.cells (ncells J2) 5 (0, 0)) ∧ Below w.heap.size w wr) (fun vi _ => L - (intOf vi).toNat)
  case atStart => exact ⟨0, by omega, rfl, R3.out, U3.out, B3.out⟩
  case round =>
    clear R3 U3 B3
    obtain ⟨k, hk, rfl, hr1, hr2, hbel⟩ := hrel
    by_cases hlt : k < n
    · have ps : ∀ (W : World) (bk o lc : Nat) (l : List Nat), Byt l → l.length = L → (∀ i, i < l.length → W.cell? ⟨bk, o + i, none⟩ = some (.int .u8 (at_ l i : Nat))) → L ≤ lc → lc ≤ maxLen →
          (convert 28 9 (.slice (some ⟨bk, o + 16 * k, none⟩) (16 * k + 16 - 16 * k) (lc - 16 * k))).run Try.prog W = .ok (.string (strN (blk l k))) W := fun W bk o lc l hl hll hc h1 h2 => by
        have hLn := HLN.out
        have := sees_part hl hc (16 * k) 16 (by omega) (by omega) (lc - 16 * k) (by omega) (by omega)
        rw [part_blk (by omega)] at this
        rw [show 16 * k + 16 - 16 * k = 16 by omega]
        exact this.str
      have kA : ∀ W : World, Below w.heap.size w W → (convert 28 9 (.slice (some ⟨ba, oa + 16 * k, none⟩) (16 * k + 16 - 16 * k) (cap - 16 * k))).run Try.prog W = .ok (.string (strN (blk a k))) W := fun W hW =>
        ps W ba oa cap a HA.out.1 HLA.out.symm (fun i hi => (hW.cell (p := ⟨ba, oa + i, none⟩) CA.out).trans (CCA.out i hi)) hca hma
      have kB : ∀ W : World, Below w.heap.size w W → (convert 28 9 (.slice (some ⟨bb, ob + 16 * k, none⟩) (16 * k + 16 - 16 * k) (cbp - 16 * k))).run Try.prog W = .ok (.string (strN (blk b k))) W := fun W hW =>
        ps W bb ob cbp b HBB.out.1 HLB.out.symm (fun i hi => (hW.cell (p := ⟨bb, ob + i, none⟩) CB.out).trans (CCB.out i hi)) hcb hmb
      have lm : L ≤ maxLen := by unfold maxLen; omega
      have kC : ∀ W : World, W.heap[q1]? = some (.cells (ncells J1) 5 (0, 0)) → (convert 28 9 (.slice (some ⟨q1, 0 + 16 * k, none⟩) (16 * k + 16 - 16 * k) (L - 16 * k))).run Try.prog W = .ok (.string (strN (blk J1 k))) W := fun W hW =>
        ps W q1 0 L J1 YA.out LA.out (fun i hi => by rw [Nat.zero_add]; exact cell_at hW LA.out (by rw [← LA.out]; exact hi)) (Nat.le_refl _) lm
      have kD : ∀ W : World, W.heap[q2]? = some (.cells (ncells J2) 5 (0, 0)) → (convert 28 9 (.slice (some ⟨q2, 0 + 16 * k, none⟩) (16 * k + 16 - 16 * k) (L - 16 * k))).run Try.prog W = .ok (.string (strN (blk J2 k))) W := fun W hW =>
        ps W q2 0 L J2 YB.out LB.out (fun i hi => by rw [Nat.zero_add]; exact cell_at hW LB.out (by rw [← LB.out]; exact hi)) (Nat.le_refl _) lm
      have CVA := fun n => kA (wr.drewN n) ⟨hbel.os, hbel.tape, hbel.output, hbel.size, hbel.block⟩
      have CVB := fun n => kB (wr.drewN n) ⟨hbel.os, hbel.tape, hbel.output, hbel.size, hbel.block⟩
      have CVC := fun n => kC (wr.drewN n) hr1
      have CVD := fun n => kD (wr.drewN n) hr2
      have hLn := HLN.out
      have eAB : ((strN (blk a k)).toList == (strN (blk b k)).toList) = decide (blk a k = blk b k) := strN_eq (blk_bts HA.out.1 k).2 (blk_bts HBB.out.1 k).2
      have eJ : ((strN (blk J1 k)).toList == (strN (blk J2 k)).toList) = decide (blk a k = blk b k) := by rw [← LIKE.out k hlt]; exact strN_eq (blk_bts YA.out k).2 (blk_bts YB.out k).2
      obtain ⟨i, hi⟩ : ∃ i, i = 16 * k := ⟨_, rfl⟩
      have sA := sl_part ba oa L cap i (i + 16) (by omega) (by omega) hca
      have sB := sl_part bb ob L cbp i (i + 16) (by omega) (by omega) hcb
      have sC := sl_part q1 0 L L i (i + 16) (by omega) (by omega) (Nat.le_refl _)
      have sD := sl_part q2 0 L L i (i + 16) (by omega) (by omega) (Nat.le_refl _)
      rw [Nat.zero_add] at sC sD
      rw [← hi] at CVA CVB CVC CVD ⊢
      rw [Nat.zero_add] at CVC CVD
      obtain ⟨j, hj⟩ : ∃ j, j = i + 16 := ⟨_, rfl⟩
      rw [← hj] at CVA CVB CVC CVD sA sB sC sD
      have hij : (i : Int) + 16 = (j : Int) := by omega
      have e1 : IntKind.i64.wrap (j : Int) = (j : Int) := IntWalk.i64_in _ (by omega)
      have hiL : (i : Int) < (L : Int) := by omega
      have HI := Lib.hid hi
      have HJ := Lib.hid hj
      have R1 := Lib.hid hr1
      have R2 := Lib.hid hr2
      have HBL := Lib.hid hbel
      have HKN := Lib.hid hlt
      generalize decide (blk a k = blk b k) = d at *
      generalize strN (blk a k) = sa at *
      generalize strN (blk b k) = sb2 at *
      generalize strN (blk J1 k) = sc at *
      generalize strN (blk J2 k) = sd at *
      generalize j - i = m at *
      generalize cap - i = m1 at *
      generalize cbp - i = m2 at *
      generalize L - i = m3 at *
      clear kA kB kC kD ps hi hj hr1 hr2 hbel hLn lm hk hlt
      go_wp2_with fail
      go_quiet (fail)
      clear CVA CVB CVC CVD sA sB sC sD eAB eJ
      go_wp2_with fail
      go_roundw
      case rel =>
        refine ⟨k + 1, by have := HKN.out; omega, ?_, R1.out, R2.out, ⟨HBL.out.os, HBL.out.tape, HBL.out.output, HBL.out.size, HBL.out.block⟩⟩
        congr 1; have := HI.out; have := HJ.out; omega
      case measure => have := HJ.out; simp [intOf]; omega
    · obtain rfl : k = n := by omega
      have hLi : ¬ (((16 * k : Nat) : Int) < (L : Int)) := by have := HLN.out; omega
      obtain ⟨i, hi⟩ : ∃ i, i = 16 * k := ⟨_, rfl⟩
      rw [← hi] at hLi ⊢
      have HBL := Lib.hid hbel
      clear hr1 hr2 hbel hi hk hlt
      go_wp2_with fail
      refine (alive6 _).mono ?_
      rintro e w9 ⟨rfl, hb⟩
      have B9 := Lib.hid (HBL.out.trans (hb.mono HBL.out.size))
      clear hb
      go_wp2_with fail
      go_ret
      exact ⟨rfl, B9.out⟩
theorem walk (k1 k2 tw a b : List Nat) (v u : Value) (h1 : Bts 32 k1) (h2 : Bts 32 k2) (ht : Bts 16 tw) (w : World) (ha : Sees w v a) (hb : Sees w u b) :
    Calls Try.prog 11 #[.agg (ncells k1), .agg (ncells k2), .agg (ncells tw), v, u] w fun e w' => e = .returned (.bool true) ∧ Below w.heap.size w w' := by
  obtain ⟨x, cap, rfl, hm⟩ := ha.form
  obtain ⟨y, cbp, rfl, hm2⟩ := hb.form
  by_cases h : 600 < a.length ∨ a.length ≠ b.length ∨ a.length = 0 ∨ a.length % 16 ≠ 0
  · exact walkNo k1 k2 tw x y _ _ cap cbp w h hm hm2
  · have e : a.length = b.length := by omega
    rw [← e] at hb ⊢
    exact walkYes k1 k2 tw a b h1 h2 ht x y _ cap cbp (a.length / 16) w ha hb rfl e (by omega) (by omega) (by omega)

set_option maxRecDepth 100000 in
theorem lifted (os : Os) (started : os.Started) (H : Type) (enc : TypeId × Value → H) :
    ReturnsInHanded {} Try.checked os 11 .any (Rows.xtsBlocksSpec.pre6 enc Try.prog Try.f11 Rows.xtsBlocksRow.domain false) (Rows.xtsBlocksSpec.post enc Try.prog Try.f11 false true false false) := by
  refine returnsInHanded_of_change (C := Try.checked) own started (by kernel_rfl) Try.func11
    (ChangeSpec.witness6 (enc := enc) (C := Try.checked) false ⟨#[], #[.agg (Array.replicate 32 (.int .u8 0)), .agg (Array.replicate 32 (.int .u8 0)), .agg (Array.replicate 16 (.int .u8 0)), .slice none 0 0, .slice none 0 0], []⟩ 8 (by kernel_rfl) (by kernel_rfl) (by kernel_rfl) (by kernel_rfl)) ?_
  intro W base args ds gs before hval0 hW hcnd _
  have hval : ∀ (j : Nat) t v, Try.f11.params[j]? = some t → args[j]? = some v → Value.okWide Try.prog W .any base t v := hval0
  have hW' := hW
  obtain ⟨p, q, hA0, hV, rfl, hfz, hnd⟩ := hW
  have hA : DataW.TrodAll enc Try.prog W 0 (fun _ => true) true Try.f11.params.toList args.toList ds p := hA0
  rw [Try.params11] at hA hval
  obtain ⟨v0, vs0, d0, ds0, p0, q0, hargs, rfl, rfl, h0, r0⟩ := trodAll_cons hA
  obtain ⟨v1, vs1, d1, ds1, p1, q1, rfl, rfl, rfl, h1, r1⟩ := trodAll_cons r0
  obtain ⟨v2, vs2, d2, ds2, p2, q2, rfl, rfl, rfl, h2, r2⟩ := trodAll_cons r1
  obtain ⟨v3, vs3, d3, ds3, p3, q3, rfl, rfl, rfl, h3, r3⟩ := trodAll_cons r2
  obtain ⟨v4, vs4, d4, ds4, p4, q4, rfl, rfl, rfl, h4, r4⟩ := trodAll_cons r3
  obtain ⟨rfl, rfl, rfl⟩ := trodAll_nil r4
  obtain rfl : args = #[v0, v1, v2, v3, v4] := by cases args; simp_all
  obtain ⟨rfl, rfl⟩ := trodVars_none hV
  obtain ⟨x0, b0, rfl⟩ := open_arr u23 cellsOf23 (hval 0 23 v0 rfl rfl) h0
  obtain ⟨x1, b1, rfl⟩ := open_arr u23 cellsOf23 (hval 1 23 v1 rfl rfl) h1
  obtain ⟨x2, b2, rfl⟩ := open_arr u37 cellsOf37 (hval 2 37 v2 rfl rfl) h2
  obtain ⟨x3, s3⟩ := open_sees (hval 3 28 v3 rfl rfl) h3
  obtain ⟨x4, s4⟩ := open_sees (hval 4 28 v4 rfl rfl) h4
  refine (walk x0 x1 x2 x3 x4 v3 v4 b0 b1 b2 W s3 s4).mono fun e W' ⟨he, hb⟩ => ?_
  subst he
  exact ⟨_, rfl, law_post hW' rfl rfl rfl (by kernel_rfl) hb⟩

/-- The statement. -/
theorem proved : Rows.XtsBlocksSaid :=
  OpenClaim.holds_of_wide 11 Try.f11 rfl rfl rfl rfl rfl rfl rfl ⟨rfl, rfl, rfl, rfl, rfl⟩ rfl rfl rfl rfl rfl (by kernel_rfl) Try.func11 (by kernel_rfl)
    (of_decide_eq_true (by kernel_rfl)) (by unfold Func.isWrapper; first | (rw [if_pos (by decide +kernel)]; kernel_rfl) | (rw [if_neg (by decide +kernel)]; exact ⟨rfl, rfl⟩))
    (fun os started H enc _ => lifted os started H enc)
#print axioms proved
end Go.Proofs.Ytekffhopmicalaa.xtsBlocks

