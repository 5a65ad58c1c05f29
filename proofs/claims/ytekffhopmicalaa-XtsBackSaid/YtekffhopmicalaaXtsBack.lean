/-
  For all pairs of keys, stamps and bytes the law XtsBack of package casematelaw06 returns true, and they read afterwards as before: a sector that is turned and turned back is as it was, and the other way round. Condition: none.
-/
import Derived.Test.YtekffhopmicalaaSE
namespace Go.Proofs.Ytekffhopmicalaa.xtsBack
open Go.ChangeShapes Go.WideShapes Go.ChangeAt Go.RowKit
set_option maxRecDepth 100000 in
set_option maxHeartbeats 4000000 in
theorem walkBig (k1 k2 : List Nat) (s : Nat) (x : Option Addr) (L cap : Nat) (w : World) (hb : 600 < L) (hm : L ≤ 9223372036854775807) : Calls Try.prog 10 #[.agg (ncells k1), .agg (ncells k2), .int .u64 s, .slice x L cap] w fun e w' => e = .returned (.bool true) ∧ Below w.heap.size w w' := by
  have hL : (600 : Int) < L := by omega
  have b0 : Below w.heap.size w ((w.alloc (.cells (ncells k1) 23)).alloc (.cells (ncells k2) 23)) := ((Below.refl _ _).alloc (Nat.le_refl _) _).alloc (by simp) _
  have HB := Lib.hid b0
  clear hb b0
  go_enter Try.func10, Try.ntmps10
  go_wp2_with fail
  refine (alive6 _).mono ?_
  rintro e w1 ⟨rfl, hb⟩
  go_wp2_with fail
  go_ret
  exact ⟨rfl, HB.out.trans (hb.mono HB.out.size)⟩
set_option maxRecDepth 100000 in
set_option maxHeartbeats 4000000 in
theorem walkNo (k1 k2 : List Nat) (h1 : Bts 32 k1) (h2 : Bts 32 k2) (s : Nat) (x : Option Addr) (L cap : Nat) (w : World) (hl : L ≤ 600) (hn : L = 0 ∨ L % 16 ≠ 0) : Calls Try.prog 10 #[.agg (ncells k1), .agg (ncells k2), .int .u64 s, .slice x L cap] w fun e w' => e = .returned (.bool true) ∧ Below w.heap.size w w' := by
  have TW : Hid (∀ W : World, Calls Try.prog 26 #[.int .u64 s] W fun e w' => e = .returned (.agg (ncells (twk s))) ∧ Below W.heap.size W w') := fun W => tweakC s W
  have NX : Hid (∀ W : World, Calls Try.prog 30 #[.agg (ncells k1), .agg (ncells k2)] W (NewX W (flat k1) (flat k2))) := fun W => newX _ _ h1 h2 W
  have TN : Hid (∀ (g : Nat) (W : World), XIat W g (flat k1) (flat k2) → Calls Try.prog 31 #[.pointer (some ⟨g, 0, none⟩), .agg (ncells (twk s)), .slice x L cap] W fun e w' => e = .returned (.tuple #[.slice none 0 0, .int .i64 3]) ∧ Below W.heap.size W w') :=
    fun g W h => turnXNo _ _ (twk s) (twk_bts s) g L x cap W h (by omega) (by omega)
  have hL : ¬ (600 : Int) < L := by omega
  have K1 := Lib.hid h1.1
  have K2 := Lib.hid h2.1
  obtain ⟨W0, hW0⟩ : ∃ W0, W0 = (w.alloc (.cells (ncells k1) 23)).alloc (.cells (ncells k2) 23) := ⟨_, rfl⟩
  have HB : Hid (Below w.heap.size w W0) := by rw [hW0]; exact ((Below.refl _ _).alloc (Nat.le_refl _) _).alloc (by simp) _
  have G0 : Hid (W0.heap[w.heap.size]? = some (.cells (ncells k1) 23 (0, 0))) := by show _ = _; rw [hW0, Below.heap_alloc _ _ _ (by simp)]; exact heap_alloc_new w _
  have G1 : Hid (W0.heap[w.heap.size + 1]? = some (.cells (ncells k2) 23 (0, 0))) := by show _ = _; rw [hW0]; exact heap_alloc2_new w _ _
  have HW0 := Lib.hid hW0
  generalize flat k1 = F1 at *
  generalize flat k2 = F2 at *
  generalize twk s = T at *
  have key : ∀ (hz : ((L : Int) == 0) = true ∨ (((L : Int) == 0) = false ∧ ∃ r : Nat, (L : Int) % 16 = r ∧ ((r : Int) == 0) = false)), Calls Try.prog 10 #[.agg (ncells k1), .agg (ncells k2), .int .u64 s, .slice x L cap] w fun e w' => e = .returned (.bool true) ∧ Below w.heap.size w w' := by
    clear hn h1 h2 hl hW0
    intro hz
    rcases hz with hz | ⟨hz, r, hr, hr0⟩
    all_goals
      go_enter Try.func10, Try.ntmps10
      go_wp2_with (first
        | (refine wpList_load_row rfl 23 (.tmp 4) rfl w.heap.size rfl 23 (ncells k1) (0, 0) _ (by rw [← HW0.out]; exact G0.out) Try.underlying23 rfl (i23 K1.out) ?_)
        | (refine wpList_load_row rfl 23 (.tmp 5) rfl (w.heap.size + 1) rfl 23 (ncells k2) (0, 0) _ (by rw [← HW0.out]; exact G1.out) Try.underlying23 rfl (i23 K2.out) ?_))
      rw [← HW0.out]
      refine (NX.out _).mono ?_
      rintro e w1 ⟨g, rfl, hx, hb⟩
      have X1 := Lib.hid hx
      have B1 := Lib.hid (HB.out.trans (hb.mono HB.out.size))
      clear hx hb
      go_wp2_with fail
      refine (TW.out _).mono ?_
      rintro e w2 ⟨rfl, hb⟩
      have X2 := Lib.hid (X1.out.below hb)
      have B2 := Lib.hid (B1.out.trans (hb.mono B1.out.size))
      clear hb
      go_wp2_with fail
      refine (TN.out _ _ X2.out).mono ?_
      rintro e w3 ⟨rfl, hb⟩
      have B3 := Lib.hid (B2.out.trans (hb.mono B2.out.size))
      clear hb
      go_wp2_with fail
      refine (alive6 _).mono ?_
      rintro e w4 ⟨rfl, hb⟩
      have B4 := Lib.hid (B3.out.trans (hb.mono B3.out.size))
      clear hb
      go_wp2_with fail
      go_ret
      exact ⟨rfl, B4.out⟩
  rcases Nat.eq_zero_or_pos L with h0 | h0
  · exact key (.inl (by simp; omega))
  · exact key (.inr ⟨by simp; omega, L % 16, by omega, by simp; omega⟩)
set_option maxRecDepth 100000 in
set_option maxHeartbeats 4000000 in
theorem walkYes (k1 k2 b : List Nat) (h1 : Bts 32 k1) (h2 : Bts 32 k2) (s : Nat) (x : Option Addr) (L cap n : Nat) (w : World) (hs : Sees w (.slice x L cap) b) (hLb : L = b.length) (hl : L ≤ 600) (hn : L = 16 * n) (h0 : 0 < n) : Calls Try.prog 10 #[.agg (ncells k1), .agg (ncells k2), .int .u64 s, .slice x L cap] w fun e w' => e = .returned (.bool true) ∧ Below w.heap.size w w' := by
  have TW : Hid (∀ W : World, Calls Try.prog 26 #[.int .u64 s] W fun e w' => e = .returned (.agg (ncells (twk s))) ∧ Below W.heap.size W w') := fun W => tweakC s W
  have NX : Hid (∀ W : World, Calls Try.prog 30 #[.agg (ncells k1), .agg (ncells k2)] W (NewX W (flat k1) (flat k2))) := fun W => newX _ _ h1 h2 W
  have hM : Bts 16 (enc k2 (twk s)) := enc_bts h2 (twk_bts s)
  have SR : ∀ (W : World) (q : Nat) (J : List Nat), Byt J → J.length = L → W.heap[q]? = some (.cells (ncells J) 5 (0, 0)) → Sees W (.slice (some ⟨q, 0, none⟩) L L) J := fun W q J hJ hl2 hq => sees_row W q J hJ (by rw [hl2]; unfold maxLen; omega) hq L hl2.symm
  have yE : Byt (sct (enc k1) (enc k2 (twk s)) b n) := sct_bts (fun _ h => enc_bts h1 h) hM hs.1 n
  have yD : Byt (sct (dec k1) (enc k2 (twk s)) b n) := sct_bts (fun _ h => dec_bts h1 h) hM hs.1 n
  have lE : (sct (enc k1) (enc k2 (twk s)) b n).length = L := by rw [sct_len, hn]
  have lD : (sct (dec k1) (enc k2 (twk s)) b n).length = L := by rw [sct_len, hn]
  have T1 : Hid (∀ (g : Nat) (W : World), XIat W g (flat k1) (flat k2) → Sees W (.slice x L cap) b → Calls Try.prog 31 #[.pointer (some ⟨g, 0, none⟩), .agg (ncells (twk s)), .slice x L cap] W (SecP W L (sct (enc k1) (enc k2 (twk s)) b n))) :=
    fun g W h hv => turnX k1 k2 (twk s) b h1 h2 (twk_bts s) g L n x cap W h hv hLb hn h0 (by omega)
  have D2 : Hid (∀ (g : Nat) (W : World), XIat W g (flat k1) (flat k2) → Sees W (.slice x L cap) b → Calls Try.prog 33 #[.pointer (some ⟨g, 0, none⟩), .agg (ncells (twk s)), .slice x L cap] W (SecP W L (sct (dec k1) (enc k2 (twk s)) b n))) :=
    fun g W h hv => backX k1 k2 (twk s) b h1 h2 (twk_bts s) g L n x cap W h hv hLb hn h0 (by omega)
  have D1 : Hid (∀ (g q : Nat) (W : World), XIat W g (flat k1) (flat k2) → W.heap[q]? = some (.cells (ncells (sct (enc k1) (enc k2 (twk s)) b n)) 5 (0, 0)) → Calls Try.prog 33 #[.pointer (some ⟨g, 0, none⟩), .agg (ncells (twk s)), .slice (some ⟨q, 0, none⟩) L L] W (SecP W L b)) := fun g q W h hq => by
    have := backX k1 k2 (twk s) _ h1 h2 (twk_bts s) g L n _ L W h (SR W q _ yE lE hq) lE.symm hn h0 (by omega)
    rw [sct_back (n := n) hM (by rw [← hLb, hn]) hs.1 (fun _ h => enc_bts h1 h) (fun _ h => dec_enc h1 h)] at this
    exact this
  have T2 : Hid (∀ (g q : Nat) (W : World), XIat W g (flat k1) (flat k2) → W.heap[q]? = some (.cells (ncells (sct (dec k1) (enc k2 (twk s)) b n)) 5 (0, 0)) → Calls Try.prog 31 #[.pointer (some ⟨g, 0, none⟩), .agg (ncells (twk s)), .slice (some ⟨q, 0, none⟩) L L] W (SecP W L b)) := fun g q W h hq => by
    have := turnX k1 k2 (twk s) _ h1 h2 (twk_bts s) g L n _ L W h (SR W q _ yD lD hq) lD.symm hn h0 (by omega)
    rw [sct_back (n := n) hM (by rw [← hLb, hn]) hs.1 (fun _ h => dec_bts h1 h) (fun _ h => enc_dec h1 h)] at this
    exact this
  have SS : Hid (∀ (W : World) (q : Nat), W.heap[q]? = some (.cells (ncells b) 5 (0, 0)) → (convert 28 9 (.slice (some ⟨q, 0, none⟩) L L)).run Try.prog W = .ok (.string (strN b)) W) := fun W q hq => (SR W q b hs.1 hLb.symm hq).str
  have HS := Lib.hid hs
  have hL : ¬ (600 : Int) < L := by omega
  have z0 : ((L : Int) == 0) = false := by simp; omega
  have z1 : (L : Int) % 16 = 0 := by omega
  have hlm : L ≤ 9223372036854775807 := by omega
  have SQ : Hid (((strN b).toList == (strN b).toList) = true) := by show _ = _; simp
  have K1 := Lib.hid h1.1
  have K2 := Lib.hid h2.1
  obtain ⟨W0, hW0⟩ : ∃ W0, W0 = (w.alloc (.cells (ncells k1) 23)).alloc (.cells (ncells k2) 23) := ⟨_, rfl⟩
  have HB : Hid (Below w.heap.size w W0) := by rw [hW0]; exact ((Below.refl _ _).alloc (Nat.le_refl _) _).alloc (by simp) _
  have G0 : Hid (W0.heap[w.heap.size]? = some (.cells (ncells k1) 23 (0, 0))) := by show _ = _; rw [hW0, Below.heap_alloc _ _ _ (by simp)]; exact heap_alloc_new w _
  have G1 : Hid (W0.heap[w.heap.size + 1]? = some (.cells (ncells k2) 23 (0, 0))) := by show _ = _; rw [hW0]; exact heap_alloc2_new w _ _
  have HW0 := Lib.hid hW0
  generalize sct (enc k1) (enc k2 (twk s)) b n = J1 at *
  generalize sct (dec k1) (enc k2 (twk s)) b n = J2 at *
  generalize flat k1 = F1 at *
  generalize flat k2 = F2 at *
  generalize twk s = T at *
  clear hn h1 h2 hl hW0 hM SR yE yD lE lD hs hLb h0
  go_enter Try.func10, Try.ntmps10
  go_wp2_with (first
    | (refine wpList_load_row rfl 23 (.tmp 4) rfl w.heap.size rfl 23 (ncells k1) (0, 0) _ (by rw [← HW0.out]; exact G0.out) Try.underlying23 rfl (i23 K1.out) ?_)
    | (refine wpList_load_row rfl 23 (.tmp 5) rfl (w.heap.size + 1) rfl 23 (ncells k2) (0, 0) _ (by rw [← HW0.out]; exact G1.out) Try.underlying23 rfl (i23 K2.out) ?_))
  rw [← HW0.out]
  refine (NX.out _).mono ?_
  rintro e w1 ⟨g, rfl, hx, hb⟩
  have X1 := Lib.hid hx
  have B1 := Lib.hid (HB.out.trans (hb.mono HB.out.size))
  clear hx hb HB G0 G1 HW0 NX
  go_wp2_with fail
  refine (TW.out _).mono ?_
  rintro e w2 ⟨rfl, hb⟩
  have X2 := Lib.hid (X1.out.below hb)
  have B2 := Lib.hid (B1.out.trans (hb.mono B1.out.size))
  clear hb X1 B1
  go_wp2_with fail
  refine (T1.out _ _ X2.out (HS.out.below B2.out)).mono ?_
  rintro e w3 ⟨q2, rfl, hq, hr, hb⟩
  have X3 := Lib.hid (X2.out.below hb)
  have B3 := Lib.hid (B2.out.trans (hb.mono B2.out.size))
  have P3 := Lib.hid hr
  clear hq hr hb X2 B2
  go_wp2_with fail
  refine (TW.out _).mono ?_
  rintro e w4 ⟨rfl, hb⟩
  have X4 := Lib.hid (X3.out.below hb)
  have B4 := Lib.hid (B3.out.trans (hb.mono B3.out.size))
  have P4 := Lib.hid ((hb.block _ (blk_lt P3.out)).trans P3.out)
  clear hb X3 B3
  go_wp2_with fail
  refine (D1.out _ _ _ X4.out P4.out).mono ?_
  rintro e w5 ⟨q4, rfl, hq, hr, hb⟩
  have X5 := Lib.hid (X4.out.below hb)
  have B5 := Lib.hid (B4.out.trans (hb.mono B4.out.size))
  have Q5 := Lib.hid hr
  clear hq hr hb X4 B4
  go_wp2_with fail
  refine (TW.out _).mono ?_
  rintro e w6 ⟨rfl, hb⟩
  have X6 := Lib.hid (X5.out.below hb)
  have B6 := Lib.hid (B5.out.trans (hb.mono B5.out.size))
  have Q6 := Lib.hid ((hb.block _ (blk_lt Q5.out)).trans Q5.out)
  clear hb X5 B5
  go_wp2_with fail
  refine (D2.out _ _ X6.out (HS.out.below B6.out)).mono ?_
  rintro e w7 ⟨q6, rfl, hq, hr, hb⟩
  have X7 := Lib.hid (X6.out.below hb)
  have B7 := Lib.hid (B6.out.trans (hb.mono B6.out.size))
  have R7 := Lib.hid hr
  have Q7 := Lib.hid ((hb.block _ (blk_lt Q6.out)).trans Q6.out)
  clear hq hr hb X6 B6
  go_wp2_with fail
  refine (TW.out _).mono ?_
  rintro e w8 ⟨rfl, hb⟩
  have X8 := Lib.hid (X7.out.below hb)
  have B8 := Lib.hid (B7.out.trans (hb.mono B7.out.size))
  have Q8 := Lib.hid ((hb.block _ (blk_lt Q7.out)).trans Q7.out)
  have R8 := Lib.hid ((hb.block _ (blk_lt R7.out)).trans R7.out)
  clear hb X7 B7
  go_wp2_with fail
  refine (T2.out _ _ _ X8.out R8.out).mono ?_
  rintro e w9 ⟨q8, rfl, hq, hr, hb⟩
  have X9 := Lib.hid (X8.out.below hb)
  have B9 := Lib.hid (B8.out.trans (hb.mono B8.out.size))
  have U9 := Lib.hid hr
  have Q9 := Lib.hid ((hb.block _ (blk_lt Q8.out)).trans Q8.out)
  clear hq hr hb X8 B8
  go_wp2_with fail
  refine (alive6 _).mono ?_
  rintro e w10 ⟨rfl, hb⟩
  have B10 := Lib.hid (B9.out.trans (hb.mono B9.out.size))
  have c1 := SS.out w10 q4 ((hb.block _ (blk_lt Q9.out)).trans Q9.out)
  have c2 := SS.out w10 q8 ((hb.block _ (blk_lt U9.out)).trans U9.out)
  have c3 := (HS.out.below B10.out).str
  have sq := SQ.out
  clear hb
  go_wp2_with fail
  go_ret
  exact ⟨rfl, B10.out⟩
theorem walk (k1 k2 b : List Nat) (s : Int) (v : Value) (h1 : Bts 32 k1) (h2 : Bts 32 k2) (s0 : 0 ≤ s) (w : World) (hs : Sees w v b) : Calls Try.prog 10 #[.agg (ncells k1), .agg (ncells k2), .int .u64 s, v] w fun e w' => e = .returned (.bool true) ∧ Below w.heap.size w w' := by
  obtain ⟨s, rfl⟩ := Int.eq_ofNat_of_zero_le s0
  obtain ⟨x, cap, rfl, hm⟩ := hs.form
  by_cases hb : 600 < b.length
  · exact walkBig k1 k2 s x _ cap w hb hm
  · by_cases hn : b.length = 0 ∨ b.length % 16 ≠ 0
    · exact walkNo k1 k2 h1 h2 s x _ cap w (by omega) hn
    · exact walkYes k1 k2 b h1 h2 s x _ cap (b.length / 16) w hs rfl (by omega) (by omega) (by omega)

set_option maxRecDepth 100000 in
theorem lifted (os : Os) (started : os.Started) (H : Type) (enc : TypeId × Value → H) :
    ReturnsInHanded {} Try.checked os 10 .any (Rows.xtsBackSpec.pre6 enc Try.prog Try.f10 Rows.xtsBackRow.domain false) (Rows.xtsBackSpec.post enc Try.prog Try.f10 false true false false) := by
  refine returnsInHanded_of_change (C := Try.checked) own started (by kernel_rfl) Try.func10
    (ChangeSpec.witness6 (enc := enc) (C := Try.checked) false ⟨#[], #[.agg (Array.replicate 32 (.int .u8 0)), .agg (Array.replicate 32 (.int .u8 0)), .int .u64 0, .slice none 0 0], []⟩ 8 (by kernel_rfl) (by kernel_rfl) (by kernel_rfl) (by kernel_rfl)) ?_
  intro W base args ds gs before hval0 hW hcnd _
  have hval : ∀ (j : Nat) t v, Try.f10.params[j]? = some t → args[j]? = some v → Value.okWide Try.prog W .any base t v := hval0
  have hW' := hW
  obtain ⟨p, q, hA0, hV, rfl, hfz, hnd⟩ := hW
  have hA : DataW.TrodAll enc Try.prog W 0 (fun _ => true) true Try.f10.params.toList args.toList ds p := hA0
  rw [Try.params10] at hA hval
  obtain ⟨v0, vs0, d0, ds0, p0, q0, hargs, rfl, rfl, h0, r0⟩ := trodAll_cons hA
  obtain ⟨v1, vs1, d1, ds1, p1, q1, rfl, rfl, rfl, h1, r1⟩ := trodAll_cons r0
  obtain ⟨v2, vs2, d2, ds2, p2, q2, rfl, rfl, rfl, h2, r2⟩ := trodAll_cons r1
  obtain ⟨v3, vs3, d3, ds3, p3, q3, rfl, rfl, rfl, h3, r3⟩ := trodAll_cons r2
  obtain ⟨rfl, rfl, rfl⟩ := trodAll_nil r3
  obtain rfl : args = #[v0, v1, v2, v3] := by cases args; simp_all
  obtain ⟨rfl, rfl⟩ := trodVars_none hV
  obtain ⟨x0, b0, rfl⟩ := open_arr u23 cellsOf23 (hval 0 23 v0 rfl rfl) h0
  obtain ⟨x1, b1, rfl⟩ := open_arr u23 cellsOf23 (hval 1 23 v1 rfl rfl) h1
  obtain ⟨a2, rfl, rfl, rfl, w2⟩ := open_int Try.underlying45 (hval 2 45 v2 rfl rfl) h2
  have b2 := bounds_u64 w2
  obtain ⟨x3, s3⟩ := open_sees (hval 3 28 v3 rfl rfl) h3
  refine (walk x0 x1 x3 a2 v3 b0 b1 b2.1 W s3).mono fun e W' ⟨he, hb⟩ => ?_
  subst he
  exact ⟨_, rfl, law_post hW' rfl rfl rfl (by kernel_rfl) hb⟩

/-- The statement. -/
theorem proved : Rows.XtsBackSaid :=
  OpenClaim.holds_of_wide 10 Try.f10 rfl rfl rfl rfl rfl rfl rfl ⟨rfl, rfl, rfl, rfl, rfl⟩ rfl rfl rfl rfl rfl (by kernel_rfl) Try.func10 (by kernel_rfl)
    (of_decide_eq_true (by kernel_rfl)) (by unfold Func.isWrapper; first | (rw [if_pos (by decide +kernel)]; kernel_rfl) | (rw [if_neg (by decide +kernel)]; exact ⟨rfl, rfl⟩))
    (fun os started H enc _ => lifted os started H enc)
#print axioms proved
end Go.Proofs.Ytekffhopmicalaa.xtsBack
