/-
  For all keys and bytes the law WrapUnwraps of package casematelaw07 returns true, and they read afterwards as before: any bytes are a wrap, or not, as the document says. Condition: none.
-/
import Derived.Test.YtekffhopmicalaaWrV
namespace Go.Proofs.Ytekffhopmicalaa.wrapUnwraps
open Go.ChangeShapes Go.WideShapes Go.ChangeAt Go.RowKit
set_option maxRecDepth 100000 in
set_option maxHeartbeats 1000000 in
theorem refNo (k : Value) (x : Option Addr) (L cap : Nat) (hm : L ≤ 9223372036854775807) (h : L < 24 ∨ 136 < L ∨ L % 8 ≠ 0) (w : World) :
    Calls Try.prog 38 #[k, .slice x L cap] w fun e w' => e = .returned (.tuple #[.slice none 0 0, .int .i64 3]) ∧ w = w' := by
  by_cases h1 : (L : Int) < 24
  · clear h
    go_enter Try.func38, Try.ntmps38
    go_wp2_with fail
    go_ret2
    exact ⟨rfl, rfl⟩
  · by_cases h2 : (136 : Int) < (L : Int)
    · clear h
      go_enter Try.func38, Try.ntmps38
      go_wp2_with fail
      go_ret2
      exact ⟨rfl, rfl⟩
    · have h3 : L % 8 ≠ 0 := by omega
      obtain ⟨r, hr⟩ : ∃ r : Nat, L % 8 = r := ⟨_, rfl⟩
      have tr : (L : Int).tmod 8 = (r : Int) := by rw [Int.tmod_eq_emod_of_nonneg (by omega)]; omega
      have z : ((r : Int) != 0) = true := by simp; omega
      clear h h3 hr
      go_enter Try.func38, Try.ntmps38
      go_wp2_with fail
      go_ret2
      exact ⟨rfl, rfl⟩
/-- What both hand out. -/
def RP (W : World) (M : Nat) (X : List Nat) (g : Int) (e : Ending) (w' : World) : Prop := ∃ q c, e = .returned (.tuple #[.slice q M c, .int .i64 g]) ∧ Sees w' (.slice q M c) X ∧ Below W.heap.size W w'
theorem sees_none (w : World) : Sees w (.slice none 0 0) [] := ⟨byt_nil, .inl ⟨rfl, rfl⟩⟩
set_option maxRecDepth 100000 in
set_option maxHeartbeats 4000000 in
theorem walkBig (key : List Nat) (x : Option Addr) (L c : Nat) (w : World) (h : 400 < L) : Calls Try.prog 14 #[.agg (ncells key), .slice x L c] w fun e w' => e = .returned (.bool true) ∧ Below w.heap.size w w' := by
  have b0 : Below w.heap.size w (w.alloc (.cells (ncells key) 23)) := (Below.refl _ _).alloc (Nat.le_refl _) _
  have HB := Lib.hid b0
  have hL : (400 : Int) < L := by omega
  clear b0 h
  go_enter Try.func14, Try.ntmps14
  go_wp2_with fail
  refine (alive7 _).mono ?_
  rintro e w1 ⟨rfl, hb⟩
  go_wp2_with fail
  go_ret
  exact ⟨rfl, HB.out.trans (hb.mono HB.out.size)⟩
set_option maxRecDepth 100000 in
set_option maxHeartbeats 4000000 in
theorem walkSame (key b X : List Nat) (hk : key.length = 32) (x : Option Addr) (L c M : Nat) (g : Int) (w : World) (hl : L ≤ 400) (sb : Sees w (.slice x L c) b)
    (XO : Hid (∀ W : World, Sees W (.slice x L c) b → Calls Try.prog 37 #[.agg (ncells key), .slice x L c] W (RP W M X g)))
    (YO : Hid (∀ (W : World) (q : Nat), W.heap[q]? = some (.cells (ncells key) 23 (0, 0)) → Sees W (.slice x L c) b → Calls Try.prog 38 #[.slice (some ⟨q, 0, none⟩) 32 32, .slice x L c] W (RP W M X g))) :
    Calls Try.prog 14 #[.agg (ncells key), .slice x L c] w fun e w' => e = .returned (.bool true) ∧ Below w.heap.size w w' := by
  have hL : ¬ (400 : Int) < L := by omega
  obtain ⟨W0, hW0⟩ : ∃ W0, W0 = w.alloc (.cells (ncells key) 23) := ⟨_, rfl⟩
  have HB : Hid (Below w.heap.size w W0) := by rw [hW0]; exact (Below.refl _ _).alloc (Nat.le_refl _) _
  have G0 : Hid (W0.heap[w.heap.size]? = some (.cells (ncells key) 23 (0, 0))) := by show _ = _; rw [hW0]; exact heap_alloc_new w _
  have HW0 := Lib.hid hW0
  have HK := Lib.hid hk
  have SB := Lib.hid sb
  clear hW0 hk sb hl
  go_enter Try.func14, Try.ntmps14
  go_wp2_with (refine wpList_load_row rfl 23 (.tmp 2) rfl w.heap.size rfl 23 (ncells key) (0, 0) _ (by rw [← HW0.out]; exact G0.out) Try.underlying23 rfl (i23 HK.out) ?_)
  rw [← HW0.out]
  refine (XO.out _ (SB.out.below HB.out)).mono ?_
  rintro e w1 ⟨q1, c1, rfl, hs, hb⟩
  have X1 := Lib.hid hs
  have G1 := Lib.hid ((hb.block _ (blk_lt G0.out)).trans G0.out)
  have B1 := Lib.hid (HB.out.trans (hb.mono HB.out.size))
  clear hb G0 HB hs
  go_wp2_with fail
  refine (YO.out _ _ G1.out (SB.out.below B1.out)).mono ?_
  rintro e w2 ⟨q2, c2, rfl, hs, hb⟩
  have X2 := Lib.hid (X1.out.below hb)
  have Y2 := Lib.hid hs
  have B2 := Lib.hid (B1.out.trans (hb.mono B1.out.size))
  clear hb B1 hs X1
  go_wp2_with fail
  refine (alive7 _).mono ?_
  rintro e w3 ⟨rfl, hb⟩
  have B3 := Lib.hid (B2.out.trans (hb.mono B2.out.size))
  have s1 := (X2.out.below hb).str
  have s2 := (Y2.out.below hb).str
  have sq : ((strN X).toList == (strN X).toList) = true := by simp
  have gq : (g == g) = true := by simp
  clear hb B2
  go_wp2_with fail
  go_ret
  exact ⟨rfl, B3.out⟩
theorem walk (key b : List Nat) (v : Value) (hk : Bts 32 key) (w : World) (sb : Sees w v b) : Calls Try.prog 14 #[.agg (ncells key), v] w fun e w' => e = .returned (.bool true) ∧ Below w.heap.size w w' := by
  obtain ⟨x, c, rfl, hmax⟩ := sb.form
  by_cases hbig : 400 < b.length
  · exact walkBig key x _ c w hbig
  cases hi : isW ((b.length : Int) - 8) with
  | false =>
    have h3 : b.length < 24 ∨ 136 < b.length ∨ b.length % 8 ≠ 0 := by
      unfold isW at hi
      simp at hi
      omega
    refine walkSame key b [] hk.1 x _ c 0 3 w (by omega) sb (fun W hs => ?_) (fun W q hg hs => ?_)
    · exact (unwrapNo key x b.length c W hmax hi).mono fun e w' ⟨he, hb⟩ => ⟨_, _, he, sees_none w', hb⟩
    · exact (refNo _ x b.length c hmax h3 W).mono fun e w' ⟨he, hb⟩ => ⟨_, _, he, sees_none w', by rw [← hb]; exact Below.refl _ _⟩
  | true =>
    have h3 : 24 ≤ b.length ∧ b.length ≤ 136 ∧ b.length % 8 = 0 := by
      unfold isW at hi
      simp at hi
      omega
    obtain ⟨n, hn⟩ : ∃ n, b.length = 8 * (n + 1) := ⟨b.length / 8 - 1, by omega⟩
    by_cases hf : (unw key b n).take 8 = fr8
    · refine walkSame key b ((unw key b n).drop 8) hk.1 x _ c (b.length - 8) 0 w (by omega) sb (fun W hs => ?_) (fun W q hg hs => ?_)
      · refine (unwrapYes key b hk n x b.length c W hs rfl hn (by omega) (by omega)).mono ?_
        rintro e w' ⟨hb, ⟨_, q, c, rfl, h⟩ | ⟨h, _⟩⟩
        · exact ⟨q, c, rfl, h, hb⟩
        · exact (h hf).elim
      · refine (refUnwrap key b hk q 0 32 n x b.length c W (fun i hi => by rw [Nat.zero_add]; exact cell_at hg hk.1 hi) (Nat.le_refl _) (by simp [maxLen]) hs rfl hn (by omega) (by omega)).mono ?_
        rintro e w' ⟨hb, ⟨_, q, c, rfl, h⟩ | ⟨h, _⟩⟩
        · exact ⟨q, c, rfl, h, hb⟩
        · exact (h hf).elim
    · refine walkSame key b [] hk.1 x _ c 0 20 w (by omega) sb (fun W hs => ?_) (fun W q hg hs => ?_)
      · refine (unwrapYes key b hk n x b.length c W hs rfl hn (by omega) (by omega)).mono ?_
        rintro e w' ⟨hb, ⟨h, _⟩ | ⟨_, h⟩⟩
        · exact (hf h).elim
        · exact ⟨_, _, h, sees_none w', hb⟩
      · refine (refUnwrap key b hk q 0 32 n x b.length c W (fun i hi => by rw [Nat.zero_add]; exact cell_at hg hk.1 hi) (Nat.le_refl _) (by simp [maxLen]) hs rfl hn (by omega) (by omega)).mono ?_
        rintro e w' ⟨hb, ⟨h, _⟩ | ⟨_, h⟩⟩
        · exact (hf h).elim
        · exact ⟨_, _, h, sees_none w', hb⟩

set_option maxRecDepth 100000 in
theorem lifted (os : Os) (started : os.Started) (H : Type) (enc : TypeId × Value → H) :
    ReturnsInHanded {} Try.checked os 14 .any (Rows.wrapUnwrapsSpec.pre6 enc Try.prog Try.f14 Rows.wrapUnwrapsRow.domain false) (Rows.wrapUnwrapsSpec.post enc Try.prog Try.f14 false true false false) := by
  refine returnsInHanded_of_change (C := Try.checked) own started (by kernel_rfl) Try.func14
    (ChangeSpec.witness6 (enc := enc) (C := Try.checked) false ⟨#[], #[.agg (Array.replicate 32 (.int .u8 0)), .slice none 0 0], []⟩ 8 (by kernel_rfl) (by kernel_rfl) (by kernel_rfl) (by kernel_rfl)) ?_
  intro W base args ds gs before hval0 hW hcnd _
  have hval : ∀ (j : Nat) t v, Try.f14.params[j]? = some t → args[j]? = some v → Value.okWide Try.prog W .any base t v := hval0
  have hW' := hW
  obtain ⟨p, q, hA0, hV, rfl, hfz, hnd⟩ := hW
  have hA : DataW.TrodAll enc Try.prog W 0 (fun _ => true) true Try.f14.params.toList args.toList ds p := hA0
  rw [Try.params14] at hA hval
  obtain ⟨v0, vs0, d0, ds0, p0, q0, hargs, rfl, rfl, h0, r0⟩ := trodAll_cons hA
  obtain ⟨v1, vs1, d1, ds1, p1, q1, rfl, rfl, rfl, h1, r1⟩ := trodAll_cons r0
  obtain ⟨rfl, rfl, rfl⟩ := trodAll_nil r1
  obtain rfl : args = #[v0, v1] := by cases args; simp_all
  obtain ⟨rfl, rfl⟩ := trodVars_none hV
  obtain ⟨x0, b0, rfl⟩ := open_arr u23 cellsOf23 (hval 0 23 v0 rfl rfl) h0
  obtain ⟨x1, s1⟩ := open_sees (hval 1 28 v1 rfl rfl) h1
  refine (walk x0 x1 v1 b0 W s1).mono fun e W' ⟨he, hb⟩ => ?_
  subst he
  exact ⟨_, rfl, law_post hW' rfl rfl rfl (by kernel_rfl) hb⟩

/-- The statement. -/
theorem proved : Rows.WrapUnwrapsSaid :=
  OpenClaim.holds_of_wide 14 Try.f14 rfl rfl rfl rfl rfl rfl rfl ⟨rfl, rfl, rfl, rfl, rfl⟩ rfl rfl rfl rfl rfl (by kernel_rfl) Try.func14 (by kernel_rfl)
    (of_decide_eq_true (by kernel_rfl)) (by unfold Func.isWrapper; first | (rw [if_pos (by decide +kernel)]; kernel_rfl) | (rw [if_neg (by decide +kernel)]; exact ⟨rfl, rfl⟩))
    (fun os started H enc _ => lifted os started H enc)
#print axioms proved
end Go.Proofs.Ytekffhopmicalaa.wrapUnwraps
