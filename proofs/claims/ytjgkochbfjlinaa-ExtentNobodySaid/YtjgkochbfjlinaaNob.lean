/-
  For every op the law ExtentNobody of package casematelaw17 returns true, and the argument reads afterwards as before: a field that is nil, or that no call made, says so. Condition: none.
-/
import Derived.Test.YtjgkochbfjlinaaU
import Derived.Deep.DeepCutAuto
namespace Go.Proofs.Ytjgkochbfjlinaa.extentNobody
open Go.ChangeShapes Go.WideShapes Go.ChangeAt Go.RowKit
set_option maxRecDepth 100000 in
set_option maxHeartbeats 8000000 in
theorem walk (k t a b : Int) (x : Nat) (hx : x < 4294967296) (w : World) :
    Calls Try.prog 4 #[.agg #[.int .i64 k, .int .i64 t, .int .i64 a, .int .i64 b, .int .u32 x]] w fun e w' => e = .returned (.bool true) ∧ Below w.heap.size w w' := by
  have HX := Lib.hid hx
  have L1 : Hid (Below w.heap.size w (w.alloc (.cells #[.int .i64 k, .int .i64 t, .int .i64 a, .int .i64 b, .int .u32 x] 34))) := (Below.refl _ _).alloc (Nat.le_refl _) _
  have P1 : Hid (B5 (w.alloc (.cells #[.int .i64 k, .int .i64 t, .int .i64 a, .int .i64 b, .int .u32 x] 34)) w.heap.size k t a b x) := heap_alloc_new _ _
  have P1s : (w.alloc (.cells #[.int .i64 k, .int .i64 t, .int .i64 a, .int .i64 b, .int .u32 x] 34)).heap.size = w.heap.size + 1 := by simp
  have UA : Hid (∀ w : World, UF (w.alloc (.cells uC.toArray 54)) w.heap.size ∧ Below w.heap.size w (w.alloc (.cells uC.toArray 54))) := fun w => ⟨⟨heap_alloc_new _ _⟩, (Below.refl _ _).alloc (Nat.le_refl _) _⟩
  have UL : Hid (uC.toArray = #[.pointer none, .bool false, .int .i64 0, .int .i64 0, .int .i64 0, .bool false, .int .i64 0, .int .i64 0, .int .i64 0, .bool false, .int .i64 0, .int .i64 0, .int .i64 0, .bool false, .int .i64 0, .int .i64 0, .int .i64 0, .bool false, .int .i64 0, .int .i64 0, .int .i64 0, .bool false, .int .i64 0, .int .i64 0, .int .i64 0, .bool false, .int .i64 0, .int .i64 0, .int .i64 0, .bool false, .int .i64 0, .int .i64 0, .int .i64 0, .bool false, .int .i64 0, .int .i64 0, .int .i64 0]) := rfl
  clear hx
  go_enter Try.func4, Try.ntmps4
  go_wp2_with fail
  rw [← UL.out]
  rw [← P1s]
  generalize w.heap.size = v at P1 P1s ⊢
  generalize w.alloc (.cells #[.int .i64 k, .int .i64 t, .int .i64 a, .int .i64 b, .int .u32 x] 34) = w1 at P1 L1 P1s ⊢
  have L2 := Lib.hid (L1.out.trans ((UA.out w1).2.mono L1.out.size))
  have U2 := Lib.hid (UA.out w1).1
  have P2 := Lib.hid (P1.out.mods (Mods.of_below (S := fun _ => False) (UA.out w1).2) id)
  clear UA UL L1 P1 P1s
  generalize w1.heap.size = u at U2 ⊢
  generalize w1.alloc (.cells uC.toArray 54) = w2 at L2 U2 P2 ⊢
  obtain ⟨_, c1, c2, c3, c4⟩ := P2.out.c
  refine (take_nil _ _).mono ?_
  rintro e w' ⟨rfl, rfl⟩
  go_wp2_with fail
  refine (takeUF U2.out t).mono ?_
  rintro e w' ⟨rfl, rfl⟩
  go_wp2_with fail
  refine (limits_nil _ _).mono ?_
  rintro e w' ⟨rfl, rfl⟩
  go_wp2_with fail
  have UA : Hid (UF w2.drew u) := U2.out.heap rfl
  have hBA : Hid (Below w2.drew.heap.size w2.drew (w2.drew.alloc (.cells #[.int .i64 0, .int .i64 0, .int .i64 0, .int .i64 0, .int .i64 0, .int .i64 0, .int .i64 0, .int .i64 0] 61))) := (Below.refl _ _).alloc (Nat.le_refl _) _
  have UB : Hid (UF (w2.drew.alloc (.cells #[.int .i64 0, .int .i64 0, .int .i64 0, .int .i64 0, .int .i64 0, .int .i64 0, .int .i64 0, .int .i64 0] 61)) u) := UA.out.below hBA.out
  have PA : Hid (B5 w2.drew v k t a b x) := P2.out.heap rfl
  have PB : Hid (B5 (w2.drew.alloc (.cells #[.int .i64 0, .int .i64 0, .int .i64 0, .int .i64 0, .int .i64 0, .int .i64 0, .int .i64 0, .int .i64 0] 61)) v k t a b x) := PA.out.mods (Mods.of_below (S := fun _ => False) hBA.out) id
  obtain ⟨_, d1, d2, d3, d4⟩ := PA.out.c
  obtain ⟨_, e1, e2, e3, e4⟩ := PB.out.c
  go_cut [12] (fun s12 wx => ∃ q, s12 = .pointer (some ⟨q, 0, none⟩) ∧ wx.heap[q]? = some (.cells #[.int .i64 6, .int .i64 6, .int .i64 6, .int .i64 6, .int .i64 6, .int .i64 6, .int .i64 6, .int .i64 6] 61 (0, 0)) ∧ UF wx u ∧ B5 wx v k t a b x ∧ Below w.heap.size w wx)
  case first =>
   go_region_held3 (fun W => (W.cell? ⟨v, 1, none⟩ = some (.int .i64 t) ∧ W.cell? ⟨v, 2, none⟩ = some (.int .i64 a) ∧ W.cell? ⟨v, 3, none⟩ = some (.int .i64 b) ∧ W.cell? ⟨v, 4, none⟩ = some (.int .u32 x))) (go_keep)
       (first
         | (go_at_call 20; refine (admit_nil _ _ _ _).mono ?_; rintro e w' ⟨rfl, rfl⟩)
         | (go_at_call 21; first | (refine (resizeUF UA.out _ _ _).mono ?_; rintro e w' ⟨rfl, rfl⟩) | (refine (resizeUF UB.out _ _ _).mono ?_; rintro e w' ⟨rfl, rfl⟩))
         | (go_at_call 22; refine (remove_nil _ _).mono ?_; rintro e w' ⟨rfl, rfl⟩)
         | (go_at_call 23; first | (refine (claimUF UA.out _ _).mono ?_; rintro e w' ⟨rfl, rfl⟩) | (refine (claimUF UB.out _ _).mono ?_; rintro e w' ⟨rfl, rfl⟩))
         | (go_at_call 24; refine (hold_nil _ _).mono ?_; rintro e w' ⟨rfl, rfl⟩)
         | (go_at_call 25; first | (refine (dropUF UA.out _ _).mono ?_; rintro e w' ⟨rfl, rfl⟩) | (refine (dropUF UB.out _ _).mono ?_; rintro e w' ⟨rfl, rfl⟩)))
   all_goals
    go_wp2_with fail
    go_meet
    have hx9 := heap_alloc_new w2 (.cells #[.int .i64 6, .int .i64 6, .int .i64 6, .int .i64 6, .int .i64 6, .int .i64 6, .int .i64 6, .int .i64 6] 61)
    have hB9 : Below w2.heap.size w2 (w2.alloc (.cells #[.int .i64 6, .int .i64 6, .int .i64 6, .int .i64 6, .int .i64 6, .int .i64 6, .int .i64 6, .int .i64 6] 61)) := (Below.refl _ _).alloc (Nat.le_refl _) _
    exact ⟨w2.heap.size, rfl, hx9, (U2.out.below hB9).heap rfl, (P2.out.mods (Mods.of_below (S := fun _ => False) hB9) id).heap rfl, L2.out.trans ((hB9.drew).mono L2.out.size)⟩
  case rest =>
  obtain ⟨q, rfl, hq, hu, hp, hb⟩ := hcut
  clear UA hBA UB PA PB d1 d2 d3 d4 e1 e2 e3 e4 c1 c2 c3 c4 U2 P2 L2
  have HQ := Lib.hid hq
  have U3 := Lib.hid hu
  have P3 := Lib.hid hp
  have L3 := Lib.hid hb
  have CQ : Hid (∀ i, i < 8 → wc.cell? ⟨q, i, none⟩ = some (.int .i64 6)) := fun i hi => by
    rw [cell_of_row _ _ _ _ _ _ hq]
    match i, hi with
    | 0, _ => rfl
    | 1, _ => rfl
    | 2, _ => rfl
    | 3, _ => rfl
    | 4, _ => rfl
    | 5, _ => rfl
    | 6, _ => rfl
    | 7, _ => rfl
  clear hq hu hp hb
  go_wp2_with fail
  go_loopg [13] 8 (fun r vi wr => ∃ i : Nat, r + i = 8 ∧ vi = .int .i64 i ∧ wc = wr)
  case atStart => exact ⟨0, rfl, rfl, rfl⟩
  case round =>
    obtain ⟨i, hr, rfl, rfl⟩ := hrel
    have HR := Lib.hid hr
    by_cases hlt : i < 8
    · have hc := CQ.out i hlt
      clear hr
      go_wp2_with fail
      go_roundg (8 - (i + 1))
      case measure => have := HR.out; omega
      case rel => exact ⟨i + 1, by omega, by go_num, rfl⟩
    · have HI : Hid (i = 8) := by show _ = _; omega
      clear hr
      go_wp2_with fail
      clear CQ HQ HI
      have UB : Hid (UF wc.drew u) := U3.out.heap rfl
      have PB : Hid (B5 wc.drew v k t a b x) := P3.out.heap rfl
      have LB : Hid (Below w.heap.size w wc.drew) := L3.out.drew
      have p4 := PB.out.c.2.2.2.2
      have o4 := P3.out.c.2.2.2.2
      have SLK : Hid (∀ (p : Option Addr) (W : World), (p = none ∨ p = some ⟨u, 0, none⟩) → UF W u → Calls Try.prog 12 #[.pointer p] W fun e w' => e = .returned (.int .i64 0) ∧ Below W.heap.size W w') := fun p W hp hu => by
        rcases hp with rfl | rfl
        · exact (slack_nil W).mono fun e w' ⟨h1, h2⟩ => ⟨h1, by rw [← h2]; exact Below.refl _ _⟩
        · exact slackUF hu
      have SIZ : Hid (∀ (p : Option Addr) (W : World), (p = none ∨ p = some ⟨u, 0, none⟩) → UF W u → Calls Try.prog 14 #[.pointer p] W fun e w' => e = .returned (.int .i64 0) ∧ W = w') := fun p W hp hu => by
        rcases hp with rfl | rfl
        · exact sizeF_nil W
        · exact sizeUF hu
      go_region_held3 (fun W => W.cell? ⟨v, 4, none⟩ = some (.int .u32 x)) (go_keep)
        (first
          | (go_at_call 8; refine (aliveF _).mono ?_; rintro e w4 ⟨rfl, hb4⟩; have PC : Hid (B5 w4 v k t a b x) := PB.out.mods (Mods.of_below (S := fun _ => False) hb4) id; have LC : Hid (Below w.heap.size w w4) := LB.out.trans (hb4.mono LB.out.size); have UC := Lib.hid (UB.out.below hb4); have q4 := PC.out.c.2.2.2.2; clear hb4 PB LB UB; have PB := PC; have LB := LC; have UB := UC; clear PC LC UC)
          | (go_at_call 12; refine (SLK.out _ _ (by first | exact .inl rfl | exact .inr rfl) UB.out).mono ?_; rintro e w4 ⟨rfl, hb4⟩; have PC : Hid (B5 w4 v k t a b x) := PB.out.mods (Mods.of_below (S := fun _ => False) hb4) id; have LC : Hid (Below w.heap.size w w4) := LB.out.trans (hb4.mono LB.out.size); have UC := Lib.hid (UB.out.below hb4); have q4 := PC.out.c.2.2.2.2; clear hb4 PB LB UB; have PB := PC; have LB := LC; have UB := UC; clear PC LC UC)
          | (go_at_call 14; refine (SIZ.out _ _ (by first | exact .inl rfl | exact .inr rfl) UB.out).mono ?_; rintro e w' ⟨rfl, rfl⟩)
          | (go_at_call 17; refine (chargeOf_nil _ _).mono ?_; rintro e w' ⟨rfl, rfl⟩)
          | (go_at_call 18; refine (timesUF UB.out x HX.out).mono ?_; rintro e w' ⟨rfl, rfl⟩))
      go_wp2_with fail
      go_ret
      exact ⟨rfl, LB.out⟩
set_option maxRecDepth 100000 in
theorem open_opv {H : Type} {enc : TypeId × Value → H} {w : World} {r : Reach} {b0 base : Nat} {v : Value} {d : DataW H} {ps : List MemPlace}
    (hval : Value.okWide Try.prog w r b0 34 v) (hd : DataW.Trod enc Try.prog w base (fun _ => true) true 34 v d ps) : ∃ (k t a b : Int) (x : Nat), v = .agg #[.int .i64 k, .int .i64 t, .int .i64 a, .int .i64 b, .int .u32 x] ∧ x < 4294967296 := by
  obtain ⟨cs, rfl, hsz⟩ := okWide_struct Try.underlying34 hval
  obtain ⟨fuel, hf⟩ := hd
  obtain ⟨k, t, a, b, x, h, hx, _, _⟩ := op_cells hf
  have h' : cs.toList = [.int .i64 k, .int .i64 t, .int .i64 a, .int .i64 b, .int .u32 x] := by simpa [Value.cells] using h
  refine ⟨k, t, a, b, x, ?_, hx⟩
  rw [← h']

set_option maxRecDepth 100000 in
theorem lifted (os : Os) (started : os.Started) (H : Type) (enc : TypeId × Value → H) :
    ReturnsInHanded {} Try.checked os 4 .any (Rows.extentNobodySpec.pre6 enc Try.prog Try.f4 Rows.extentNobodyRow.domain false) (Rows.extentNobodySpec.post enc Try.prog Try.f4 false true false false) := by
  refine returnsInHanded_of_change (C := Try.checked) own started (by kernel_rfl) Try.func4
    (ChangeSpec.witness6 (enc := enc) (C := Try.checked) false ⟨#[], #[.agg #[.int .i64 0, .int .i64 0, .int .i64 0, .int .i64 0, .int .u32 0]], []⟩ 8 (by kernel_rfl) (by kernel_rfl) (by kernel_rfl) (by kernel_rfl)) ?_
  intro W base args ds gs before hval0 hW hcnd _
  have hval : ∀ (j : Nat) t v, Try.f4.params[j]? = some t → args[j]? = some v → Value.okWide Try.prog W .any base t v := hval0
  have hW' := hW
  obtain ⟨p, q, hA0, hV, rfl, hfz, hnd⟩ := hW
  have hA : DataW.TrodAll enc Try.prog W 0 (fun _ => true) true Try.f4.params.toList args.toList ds p := hA0
  rw [Try.params4] at hA hval
  obtain ⟨v0, vs0, d0, ds0, p0, q0, hargs, rfl, rfl, h0, r0⟩ := trodAll_cons hA
  obtain ⟨rfl, rfl, rfl⟩ := trodAll_nil r0
  obtain rfl : args = #[v0] := by cases args; simp_all
  obtain ⟨rfl, rfl⟩ := trodVars_none hV
  obtain ⟨k0, t0, a0, b0, y0, rfl, hy0⟩ := open_opv (hval 0 34 v0 rfl rfl) h0
  refine (walk k0 t0 a0 b0 y0 hy0 W).mono fun e W' ⟨he, hb⟩ => ?_
  subst he
  exact ⟨_, rfl, law_post hW' rfl rfl rfl (by kernel_rfl) hb⟩

/-- The statement. -/
theorem proved : Rows.ExtentNobodySaid :=
  OpenClaim.holds_of_wide 4 Try.f4 rfl rfl rfl rfl rfl rfl rfl ⟨rfl, rfl, rfl, rfl, rfl⟩ rfl rfl rfl rfl rfl (by kernel_rfl) Try.func4 (by kernel_rfl)
    (of_decide_eq_true (by kernel_rfl)) (by unfold Func.isWrapper; first | (rw [if_pos (by decide +kernel)]; kernel_rfl) | (rw [if_neg (by decide +kernel)]; exact ⟨rfl, rfl⟩))
    (fun os started H enc _ => lifted os started H enc)
#print axioms proved
end Go.Proofs.Ytjgkochbfjlinaa.extentNobody
