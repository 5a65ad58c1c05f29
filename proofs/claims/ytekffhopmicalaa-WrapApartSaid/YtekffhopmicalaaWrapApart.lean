/-
  For all keys and two texts of bytes the law WrapApart of package casematelaw07 returns true, and they read afterwards as before: unlike words of one number are wrapped to unlike ones. Condition: none.
-/
import Derived.Test.YtekffhopmicalaaWrQ
namespace Go.Proofs.Ytekffhopmicalaa.wrapApart
open Go.ChangeShapes Go.WideShapes Go.ChangeAt Go.RowKit
set_option maxRecDepth 100000 in
set_option maxHeartbeats 4000000 in
theorem walkBig (key : List Nat) (x y : Option Addr) (L M c d : Nat) (w : World) (h : 128 < L ∨ L ≠ M) : Calls Try.prog 16 #[.agg (ncells key), .slice x L c, .slice y M d] w fun e w' => e = .returned (.bool true) ∧ Below w.heap.size w w' := by
  have b0 : Below w.heap.size w (w.alloc (.cells (ncells key) 23)) := (Below.refl _ _).alloc (Nat.le_refl _) _
  have HB := Lib.hid b0
  clear b0
  by_cases hL : (128 : Int) < L
  · clear h
    go_enter Try.func16, Try.ntmps16
    go_wp2_with fail
    refine (alive7 _).mono ?_
    rintro e w1 ⟨rfl, hb⟩
    go_wp2_with fail
    go_ret
    exact ⟨rfl, HB.out.trans (hb.mono HB.out.size)⟩
  · have z : ((L : Int) == (M : Int)) = false := by simp; omega
    clear h
    go_enter Try.func16, Try.ntmps16
    go_wp2_with fail
    refine (alive7 _).mono ?_
    rintro e w1 ⟨rfl, hb⟩
    go_wp2_with fail
    go_ret
    exact ⟨rfl, HB.out.trans (hb.mono HB.out.size)⟩
set_option maxRecDepth 100000 in
set_option maxHeartbeats 4000000 in
theorem walkNo (key : List Nat) (KB : key.length = 32) (x y : Option Addr) (L c d : Nat) (w : World) (hl : L ≤ 128) (h : isW L = false) : Calls Try.prog 16 #[.agg (ncells key), .slice x L c, .slice y L d] w fun e w' => e = .returned (.bool true) ∧ Below w.heap.size w w' := by
  have WN : Hid (∀ (x : Option Addr) (c : Nat) (W : World), Calls Try.prog 35 #[.agg (ncells key), .slice x L c] W fun e w' => e = .returned (.tuple #[.slice none 0 0, .int .i64 3]) ∧ Below W.heap.size W w') := fun x c W => wrapNo key x L c W (by omega) h
  have hL : ¬ (128 : Int) < L := by omega
  have z : ((L : Int) == (L : Int)) = true := by simp
  obtain ⟨W0, hW0⟩ : ∃ W0, W0 = w.alloc (.cells (ncells key) 23) := ⟨_, rfl⟩
  have HB : Hid (Below w.heap.size w W0) := by rw [hW0]; exact (Below.refl _ _).alloc (Nat.le_refl _) _
  have G0 : Hid (W0.heap[w.heap.size]? = some (.cells (ncells key) 23 (0, 0))) := by show _ = _; rw [hW0]; exact heap_alloc_new w _
  have HW0 := Lib.hid hW0
  have HK := Lib.hid KB
  clear hW0 h hl KB
  go_enter Try.func16, Try.ntmps16
  go_wp2_with (refine wpList_load_row rfl 23 (.tmp 3) rfl w.heap.size rfl 23 (ncells key) (0, 0) _ (by rw [← HW0.out]; exact G0.out) Try.underlying23 rfl (i23 HK.out) ?_)
  rw [← HW0.out]
  refine (WN.out _ _ _).mono ?_
  rintro e w1 ⟨rfl, hb⟩
  have G1 := Lib.hid ((hb.block _ (blk_lt G0.out)).trans G0.out)
  have B1 := Lib.hid (HB.out.trans (hb.mono HB.out.size))
  clear hb G0 HB
  go_wp2_with (refine wpList_load_row rfl 23 (.tmp 3) rfl w.heap.size rfl 23 (ncells key) (0, 0) _ G1.out Try.underlying23 rfl (i23 HK.out) ?_)
  refine (WN.out _ _ _).mono ?_
  rintro e w2 ⟨rfl, hb⟩
  have B2 := Lib.hid (B1.out.trans (hb.mono B1.out.size))
  clear hb B1
  go_wp2_with fail
  refine (alive7 _).mono ?_
  rintro e w3 ⟨rfl, hb⟩
  have B3 := Lib.hid (B2.out.trans (hb.mono B2.out.size))
  clear hb B2
  go_wp2_with fail
  go_ret
  exact ⟨rfl, B3.out⟩
theorem wrp_inj {key a b : List Nat} (hk : Bts 32 key) {n : Nat} (h1 : 0 < n) (h2 : n ≤ 16) (ha : a.length = 8 * n) (hb : b.length = 8 * n) (ya : Byt a) (yb : Byt b) (e : wrp key a n = wrp key b n) : a = b := by
  have go : ∀ c : List Nat, c.length = 8 * n → Byt c → bt (dec key) n (6 * n) (wrp key c n) = fr8 ++ c := fun c hc yc =>
    bt_tn (fun x hx => enc_bts hk hx) (fun x hx => dec_enc hk hx) h1 (by rw [List.length_append, fr8_len, hc]; omega) (fr8_byt.append yc) (6 * n) (by omega)
  have h := go a ha ya
  rw [e, go b hb yb] at h
  exact (List.append_cancel_left h).symm
set_option maxRecDepth 100000 in
set_option maxHeartbeats 4000000 in
theorem walkYes (key a b : List Nat) (hk : Bts 32 key) (x y : Option Addr) (L n c d : Nat) (w : World) (hn : L = 8 * n) (h1 : 2 ≤ n) (h2 : n ≤ 16) (sa : Sees w (.slice x L c) a) (sb : Sees w (.slice y L d) b) (la : L = a.length) (lb : L = b.length) : Calls Try.prog 16 #[.agg (ncells key), .slice x L c, .slice y L d] w fun e w' => e = .returned (.bool true) ∧ Below w.heap.size w w' := by
  have WA : Hid (∀ (W : World), Sees W (.slice x L c) a → Calls Try.prog 35 #[.agg (ncells key), .slice x L c] W fun e w' => ∃ q c, e = .returned (.tuple #[.slice q (L + 8) c, .int .i64 0]) ∧ Sees w' (.slice q (L + 8) c) (wrp key a n) ∧ Below W.heap.size W w') := fun W hs => wrapYes key a hk n x L c W hs la hn h1 h2
  have WB : Hid (∀ (W : World), Sees W (.slice y L d) b → Calls Try.prog 35 #[.agg (ncells key), .slice y L d] W fun e w' => ∃ q c, e = .returned (.tuple #[.slice q (L + 8) c, .int .i64 0]) ∧ Sees w' (.slice q (L + 8) c) (wrp key b n) ∧ Below W.heap.size W w') := fun W hs => wrapYes key b hk n y L d W hs lb hn h1 h2
  have okW : ∀ e : List Nat, e.length = L → Byt e → Byt (wrp key e n) := fun e he ye => (tn_ok (fun x hx => enc_bts hk hx) (by omega) (by rw [List.length_append, fr8_len, he]; omega) (fr8_byt.append ye) (6 * n) (by omega)).2
  obtain ⟨t, ht⟩ : ∃ t : Bool, t = ((strN a).toList == (strN b).toList) := ⟨_, rfl⟩
  have hx : ((strN (wrp key a n)).toList == (strN (wrp key b n)).toList) = t := by
    rw [ht, strN_eq (okW a la.symm sa.1) (okW b lb.symm sb.1), strN_eq sa.1 sb.1, decide_eq_decide]
    exact ⟨wrp_inj hk (by omega) h2 (by omega) (by omega) sa.1 sb.1, fun e => by rw [e]⟩
  have HT := Lib.hid ht.symm
  have HX := Lib.hid hx
  clear hx ht okW
  generalize wrp key a n = X at *
  generalize wrp key b n = Y at *
  obtain ⟨L8, hL8⟩ : ∃ L8, L8 = L + 8 := ⟨_, rfl⟩
  rw [← hL8] at WA WB
  have hL : ¬ (128 : Int) < L := by omega
  have z : ((L : Int) == (L : Int)) = true := by simp
  obtain ⟨W0, hW0⟩ : ∃ W0, W0 = w.alloc (.cells (ncells key) 23) := ⟨_, rfl⟩
  have HB : Hid (Below w.heap.size w W0) := by rw [hW0]; exact (Below.refl _ _).alloc (Nat.le_refl _) _
  have G0 : Hid (W0.heap[w.heap.size]? = some (.cells (ncells key) 23 (0, 0))) := by show _ = _; rw [hW0]; exact heap_alloc_new w _
  have HW0 := Lib.hid hW0
  have HK := Lib.hid hk.1
  have SA := Lib.hid sa
  have SB := Lib.hid sb
  clear hW0 hk hn h1 h2 sa sb la lb hL8
  go_enter Try.func16, Try.ntmps16
  go_wp2_with (refine wpList_load_row rfl 23 (.tmp 3) rfl w.heap.size rfl 23 (ncells key) (0, 0) _ (by rw [← HW0.out]; exact G0.out) Try.underlying23 rfl (i23 HK.out) ?_)
  rw [← HW0.out]
  refine (WA.out _ (SA.out.below HB.out)).mono ?_
  rintro e w1 ⟨qx, cx, rfl, hs, hb⟩
  have X1 := Lib.hid hs
  have G1 := Lib.hid ((hb.block _ (blk_lt G0.out)).trans G0.out)
  have B1 := Lib.hid (HB.out.trans (hb.mono HB.out.size))
  clear hb G0 HB hs
  go_wp2_with (refine wpList_load_row rfl 23 (.tmp 3) rfl w.heap.size rfl 23 (ncells key) (0, 0) _ G1.out Try.underlying23 rfl (i23 HK.out) ?_)
  refine (WB.out _ (SB.out.below B1.out)).mono ?_
  rintro e w2 ⟨qy, cy, rfl, hs, hb⟩
  have X2 := Lib.hid (X1.out.below hb)
  have Y2 := Lib.hid hs
  have B2 := Lib.hid (B1.out.trans (hb.mono B1.out.size))
  clear hb B1 hs X1
  go_wp2_with fail
  refine (alive7 _).mono ?_
  rintro e w3 ⟨rfl, hb⟩
  have B3 := Lib.hid (B2.out.trans (hb.mono B2.out.size))
  have s1 := (X2.out.below hb).str
  have s2 := (Y2.out.below hb).str
  have s3 := (SA.out.below B3.out).str
  have s4 := (SB.out.below B3.out).str
  have ht := HT.out
  have hx := HX.out
  clear hb B2
  go_wp2_with fail
  go_ret
  exact ⟨rfl, B3.out⟩
theorem walk (key : List Nat) (a b : List Nat) (v u : Value) (hk : Bts 32 key) (w : World) (sa : Sees w v a) (sb : Sees w u b) : Calls Try.prog 16 #[.agg (ncells key), v, u] w fun e w' => e = .returned (.bool true) ∧ Below w.heap.size w w' := by
  obtain ⟨x, c, rfl, _⟩ := sa.form
  obtain ⟨y, d, rfl, _⟩ := sb.form
  by_cases h : 128 < a.length ∨ a.length ≠ b.length
  · exact walkBig key x y _ _ c d w h
  · have e : b.length = a.length := by omega
    rw [e] at sb ⊢
    cases hi : isW a.length with
    | false => exact walkNo key hk.1 x y _ c d w (by omega) hi
    | true =>
      have hh : 16 ≤ a.length ∧ a.length % 8 = 0 := by unfold isW at hi; simp at hi; omega
      exact walkYes key a b hk x y a.length (a.length / 8) c d w (by omega) (by omega) (by omega) sa sb rfl e.symm

set_option maxRecDepth 100000 in
theorem lifted (os : Os) (started : os.Started) (H : Type) (enc : TypeId × Value → H) :
    ReturnsInHanded {} Try.checked os 16 .any (Rows.wrapApartSpec.pre6 enc Try.prog Try.f16 Rows.wrapApartRow.domain false) (Rows.wrapApartSpec.post enc Try.prog Try.f16 false true false false) := by
  refine returnsInHanded_of_change (C := Try.checked) own started (by kernel_rfl) Try.func16
    (ChangeSpec.witness6 (enc := enc) (C := Try.checked) false ⟨#[], #[.agg (Array.replicate 32 (.int .u8 0)), .slice none 0 0, .slice none 0 0], []⟩ 8 (by kernel_rfl) (by kernel_rfl) (by kernel_rfl) (by kernel_rfl)) ?_
  intro W base args ds gs before hval0 hW hcnd _
  have hval : ∀ (j : Nat) t v, Try.f16.params[j]? = some t → args[j]? = some v → Value.okWide Try.prog W .any base t v := hval0
  have hW' := hW
  obtain ⟨p, q, hA0, hV, rfl, hfz, hnd⟩ := hW
  have hA : DataW.TrodAll enc Try.prog W 0 (fun _ => true) true Try.f16.params.toList args.toList ds p := hA0
  rw [Try.params16] at hA hval
  obtain ⟨v0, vs0, d0, ds0, p0, q0, hargs, rfl, rfl, h0, r0⟩ := trodAll_cons hA
  obtain ⟨v1, vs1, d1, ds1, p1, q1, rfl, rfl, rfl, h1, r1⟩ := trodAll_cons r0
  obtain ⟨v2, vs2, d2, ds2, p2, q2, rfl, rfl, rfl, h2, r2⟩ := trodAll_cons r1
  obtain ⟨rfl, rfl, rfl⟩ := trodAll_nil r2
  obtain rfl : args = #[v0, v1, v2] := by cases args; simp_all
  obtain ⟨rfl, rfl⟩ := trodVars_none hV
  obtain ⟨x0, b0, rfl⟩ := open_arr u23 cellsOf23 (hval 0 23 v0 rfl rfl) h0
  obtain ⟨x1, s1⟩ := open_sees (hval 1 28 v1 rfl rfl) h1
  obtain ⟨x2, s2⟩ := open_sees (hval 2 28 v2 rfl rfl) h2
  refine (walk x0 x1 x2 v1 v2 b0 W s1 s2).mono fun e W' ⟨he, hb⟩ => ?_
  subst he
  exact ⟨_, rfl, law_post hW' rfl rfl rfl (by kernel_rfl) hb⟩

/-- The statement. -/
theorem proved : Rows.WrapApartSaid :=
  OpenClaim.holds_of_wide 16 Try.f16 rfl rfl rfl rfl rfl rfl rfl ⟨rfl, rfl, rfl, rfl, rfl⟩ rfl rfl rfl rfl rfl (by kernel_rfl) Try.func16 (by kernel_rfl)
    (of_decide_eq_true (by kernel_rfl)) (by unfold Func.isWrapper; first | (rw [if_pos (by decide +kernel)]; kernel_rfl) | (rw [if_neg (by decide +kernel)]; exact ⟨rfl, rfl⟩))
    (fun os started H enc _ => lifted os started H enc)
#print axioms proved
end Go.Proofs.Ytekffhopmicalaa.wrapApart
