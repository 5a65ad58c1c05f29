/-
  For every two slices of bytes a, b and every int size the law OctetPads of package casematelaw01 returns true, and the arguments read afterwards as before: bytes are told apart, and filled up, or are too many, as the document says. Condition: none.
-/
import Derived.Test.YtmjbfjkbfnpnlaaI
import Derived.Test.YtmjbfjkbfnpnlaaL
import Derived.Deep.RegionHeld3
import Derived.Deep.DrawnRows
namespace Go.Proofs.Ytmjbfjkbfnpnlaa.octetPads
open Go.ChangeShapes Go.WideShapes Go.ChangeAt Go.RowKit
attribute [local go_sem ↓] Go.wp_at_zero Go.wp_at_succ
theorem walk_great (x y : Option Addr) (l c m d : Nat) (n : Int) (hl : l ≤ 9223372036854775807) (hm : m ≤ 9223372036854775807) (hg : 2000 < l ∨ 2000 < m ∨ 3000 < n ∧ n ≤ 65536) (w : World) :
    Calls Try.prog 4 #[.slice x l c, .slice y m d, .int .i64 n] w fun e w' => e = .returned (.bool true) ∧ Below w.heap.size w w' := by
  by_cases h1 : 2000 < l
  · clear hg
    go_enter Try.func4, Try.ntmps4
    go_wp2_with (go_at_call 8; refine (alive _).mono ?_; rintro e w1 ⟨rfl, hb⟩; have HB := Lib.hid hb; clear hb)
    go_ret
    exact ⟨rfl, HB.out⟩
  by_cases h2 : 2000 < m
  · clear hg
    go_enter Try.func4, Try.ntmps4
    go_wp2_with (go_at_call 8; refine (alive _).mono ?_; rintro e w1 ⟨rfl, hb⟩; have HB := Lib.hid hb; clear hb)
    go_ret
    exact ⟨rfl, HB.out⟩
  obtain ⟨h3, h4⟩ : 3000 < n ∧ n ≤ 65536 := by omega
  clear hg
  go_enter Try.func4, Try.ntmps4
  go_wp2_with (go_at_call 8; refine (alive _).mono ?_; rintro e w1 ⟨rfl, hb⟩; have HB := Lib.hid hb; clear hb)
  go_ret
  exact ⟨rfl, HB.out⟩
set_option maxHeartbeats 2000000 in
theorem walk_small (v u : Value) (xs ys : List Int) (n : Int) (hn : -9223372036854775808 ≤ n ∧ n ≤ 9223372036854775807) (hl : xs.length ≤ 2000) (hm : ys.length ≤ 2000) (hg : ¬ (3000 < n ∧ n ≤ 65536)) (w : World) (h : Sees w v xs) (k : Sees w u ys) :
    Calls Try.prog 4 #[v, u, .int .i64 n] w fun e w' => e = .returned (.bool true) ∧ Below w.heap.size w w' := by
  obtain ⟨x, c, rfl, h63⟩ := h.form
  obtain ⟨y, d, rfl, _⟩ := k.form
  have H := Lib.hid h
  have K := Lib.hid k
  clear h k
  by_cases h3 : 3000 < n
  · have h4 : 65536 < n := by omega
    clear hg
    go_enter Try.func4, Try.ntmps4
    go_wp2_with fail
    refine (pad _ xs n hn _ H.out).mono ?_
    rintro e w1 ⟨p1, rfl, hs, hb⟩
    have S1 := Lib.hid hs
    have B1 := Lib.hid hb
    clear hs hb
    go_wp2_with fail
    refine (refPad _ xs n (by omega) hn _ (H.out.below B1.out)).mono ?_
    rintro e w2 ⟨p2, rfl, hs, hb⟩
    have S2 := Lib.hid hs
    have B2 := Lib.hid (B1.out.trans (hb.mono B1.out.size))
    have S3 := Lib.hid (S1.out.below hb)
    clear hs hb
    have cx : ∀ W, Below w2.heap.size w2 W → (convert 25 9 (.slice x xs.length c)).run Try.prog W = .ok (.string (strOfNums xs)) W := fun W hW => ((H.out.below B2.out).below hW).str
    have cy : ∀ W, Below w2.heap.size w2 W → (convert 25 9 (.slice y ys.length d)).run Try.prog W = .ok (.string (strOfNums ys)) W := fun W hW => ((K.out.below B2.out).below hW).str
    have c1 : ∀ W, Below w2.heap.size w2 W → (convert 25 9 p1).run Try.prog W = .ok (.string (strOfNums (padV xs n))) W := fun W hW => (S3.out.below hW).str
    have c2 : ∀ W, Below w2.heap.size w2 W → (convert 25 9 p2).run Try.prog W = .ok (.string (strOfNums (padV xs n))) W := fun W hW => (S2.out.below hW).str
    have hE := str_eq xs ys H.out.1 K.out.1
    go_wp2_with fail
    go_region_held3 (fun W => Below w2.heap.size w2 W) (first | assumption | exact (Below.refl _ _).drew)
      (first
        | (go_at_call 8; refine (alive _).mono ?_; rintro e w3 ⟨rfl, hb⟩; have hb3 : Below w2.heap.size w2 w3 := Below.trans ‹Below w2.heap.size w2 _› (hb.mono (Below.size ‹Below w2.heap.size w2 _›)); clear hb)
        | (go_at_call_of 21 (Value.slice y ys.length d); refine (same _ _ xs ys _ ((H.out.below B2.out).below ‹Below w2.heap.size w2 _›) ((K.out.below B2.out).below ‹Below w2.heap.size w2 _›)).mono ?_; rintro e w3 ⟨rfl, rfl⟩)
        | (go_at_call 21; refine (same _ _ xs xs _ ((H.out.below B2.out).below ‹Below w2.heap.size w2 _›) ((H.out.below B2.out).below ‹Below w2.heap.size w2 _›)).mono ?_; rintro e w3 ⟨rfl, rfl⟩))
    go_wp2_with fail
    go_ret
    exact ⟨rfl, B2.out.trans (Below.mono ‹Below w2.heap.size w2 _› B2.out.size)⟩
  · clear hg
    go_enter Try.func4, Try.ntmps4
    go_wp2_with fail
    refine (pad _ xs n hn _ H.out).mono ?_
    rintro e w1 ⟨p1, rfl, hs, hb⟩
    have S1 := Lib.hid hs
    have B1 := Lib.hid hb
    clear hs hb
    go_wp2_with fail
    refine (refPad _ xs n (by omega) hn _ (H.out.below B1.out)).mono ?_
    rintro e w2 ⟨p2, rfl, hs, hb⟩
    have S2 := Lib.hid hs
    have B2 := Lib.hid (B1.out.trans (hb.mono B1.out.size))
    have S3 := Lib.hid (S1.out.below hb)
    clear hs hb
    have cx : ∀ W, Below w2.heap.size w2 W → (convert 25 9 (.slice x xs.length c)).run Try.prog W = .ok (.string (strOfNums xs)) W := fun W hW => ((H.out.below B2.out).below hW).str
    have cy : ∀ W, Below w2.heap.size w2 W → (convert 25 9 (.slice y ys.length d)).run Try.prog W = .ok (.string (strOfNums ys)) W := fun W hW => ((K.out.below B2.out).below hW).str
    have c1 : ∀ W, Below w2.heap.size w2 W → (convert 25 9 p1).run Try.prog W = .ok (.string (strOfNums (padV xs n))) W := fun W hW => (S3.out.below hW).str
    have c2 : ∀ W, Below w2.heap.size w2 W → (convert 25 9 p2).run Try.prog W = .ok (.string (strOfNums (padV xs n))) W := fun W hW => (S2.out.below hW).str
    have hE := str_eq xs ys H.out.1 K.out.1
    go_wp2_with fail
    go_region_held3 (fun W => Below w2.heap.size w2 W) (first | assumption | exact (Below.refl _ _).drew)
      (first
        | (go_at_call 8; refine (alive _).mono ?_; rintro e w3 ⟨rfl, hb⟩; have hb3 : Below w2.heap.size w2 w3 := Below.trans ‹Below w2.heap.size w2 _› (hb.mono (Below.size ‹Below w2.heap.size w2 _›)); clear hb)
        | (go_at_call_of 21 (Value.slice y ys.length d); refine (same _ _ xs ys _ ((H.out.below B2.out).below ‹Below w2.heap.size w2 _›) ((K.out.below B2.out).below ‹Below w2.heap.size w2 _›)).mono ?_; rintro e w3 ⟨rfl, rfl⟩)
        | (go_at_call 21; refine (same _ _ xs xs _ ((H.out.below B2.out).below ‹Below w2.heap.size w2 _›) ((H.out.below B2.out).below ‹Below w2.heap.size w2 _›)).mono ?_; rintro e w3 ⟨rfl, rfl⟩))
    go_wp2_with fail
    go_ret
    exact ⟨rfl, B2.out.trans (Below.mono ‹Below w2.heap.size w2 _› B2.out.size)⟩
theorem walk (v u : Value) (xs ys : List Int) (n : Int) (hn : -9223372036854775808 ≤ n ∧ n ≤ 9223372036854775807) (w : World) (h : Sees w v xs) (k : Sees w u ys) :
    Calls Try.prog 4 #[v, u, .int .i64 n] w fun e w' => e = .returned (.bool true) ∧ Below w.heap.size w w' := by
  by_cases hg : 2000 < xs.length ∨ 2000 < ys.length ∨ 3000 < n ∧ n ≤ 65536
  · obtain ⟨x, c, rfl, h63⟩ := h.form
    obtain ⟨y, d, rfl, h64⟩ := k.form
    exact walk_great x y _ c _ d n h63 h64 hg w
  · exact walk_small v u xs ys n hn (by omega) (by omega) (by omega) w h k

set_option maxRecDepth 100000 in
theorem lifted (os : Os) (started : os.Started) (H : Type) (enc : TypeId × Value → H) :
    ReturnsInHanded {} Try.checked os 4 .any (Rows.octetPadsSpec.pre6 enc Try.prog Try.f4 Rows.octetPadsRow.domain false) (Rows.octetPadsSpec.post enc Try.prog Try.f4 false true false false) := by
  refine returnsInHanded_of_change (C := Try.checked) own started (by kernel_rfl) Try.func4
    (ChangeSpec.witness6 (enc := enc) (C := Try.checked) false ⟨#[], #[.slice none 0 0, .slice none 0 0, .int .i64 0], []⟩ 8 (by kernel_rfl) (by kernel_rfl) (by kernel_rfl) (by kernel_rfl)) ?_
  intro W base args ds gs before hval0 hW hcnd _
  have hval : ∀ (j : Nat) t v, Try.f4.params[j]? = some t → args[j]? = some v → Value.okWide Try.prog W .any base t v := hval0
  have hW' := hW
  obtain ⟨p, q, hA0, hV, rfl, hfz, hnd⟩ := hW
  have hA : DataW.TrodAll enc Try.prog W 0 (fun _ => true) true Try.f4.params.toList args.toList ds p := hA0
  rw [Try.params4] at hA hval
  obtain ⟨v0, vs0, d0, ds0, p0, q0, hargs, rfl, rfl, h0, r0⟩ := trodAll_cons hA
  obtain ⟨v1, vs1, d1, ds1, p1, q1, rfl, rfl, rfl, h1, r1⟩ := trodAll_cons r0
  obtain ⟨v2, vs2, d2, ds2, p2, q2, rfl, rfl, rfl, h2, r2⟩ := trodAll_cons r1
  obtain ⟨rfl, rfl, rfl⟩ := trodAll_nil r2
  obtain rfl : args = #[v0, v1, v2] := by cases args; simp_all
  obtain ⟨rfl, rfl⟩ := trodVars_none hV
  obtain ⟨x0, s0⟩ := open_sees (hval 0 25 v0 rfl rfl) h0
  obtain ⟨x1, s1⟩ := open_sees (hval 1 25 v1 rfl rfl) h1
  obtain ⟨a2, rfl, rfl, rfl, w2⟩ := open_int Try.underlying3 (hval 2 3 v2 rfl rfl) h2
  have b2 := bounds_i64 w2
  refine (walk v0 v1 x0 x1 a2 ⟨b2.1, b2.2⟩ W s0 s1).mono fun e W' ⟨he, hb⟩ => ?_
  subst he
  exact ⟨_, rfl, law_post hW' rfl rfl rfl (by kernel_rfl) hb⟩

/-- The statement. -/
theorem proved : Rows.OctetPadsSaid :=
  OpenClaim.holds_of_wide 4 Try.f4 rfl rfl rfl rfl rfl rfl rfl ⟨rfl, rfl, rfl, rfl, rfl⟩ rfl rfl rfl rfl rfl (by kernel_rfl) Try.func4 (by kernel_rfl)
    (of_decide_eq_true (by kernel_rfl)) (by unfold Func.isWrapper; first | (rw [if_pos (by decide +kernel)]; kernel_rfl) | (rw [if_neg (by decide +kernel)]; exact ⟨rfl, rfl⟩))
    (fun os started H enc _ => lifted os started H enc)
#print axioms proved
end Go.Proofs.Ytmjbfjkbfnpnlaa.octetPads
