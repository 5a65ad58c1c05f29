/-
  For every slice of ints and every int the law RingMaps of package casematelaw09 returns true, and the arguments read afterwards as before: what a function makes of each stands in the same order, and there are as many; what is found is the first one. Condition: none.
-/
import Derived.Test.YtfdihgahegfamaaO
import Derived.Deep.LoopGhost
import Derived.Deep.QuietTactic
import Derived.BigQuiet
namespace Go.Proofs.Ytfdihgahegfamaa.ringMaps
open Go.ChangeShapes Go.WideShapes Go.ChangeAt Go.RowKit
theorem walk_out (n : Int) (x : Option Addr) (l c : Nat) (hl : l ≤ 9223372036854775807) (hg : 100 < l ∨ l = 0) (w : World) :
    Calls Try.prog 7 #[.slice x l c, .int .i64 n] w fun e w' => e = .returned (.bool true) ∧ Below w.heap.size w w' := by
  rcases hg with h | rfl
  · go_enter Try.func7, Try.ntmps7
    go_wp2_with (go_at_call 12; refine (alive _).mono ?_; rintro e w1 ⟨rfl, hb⟩; have HB := Lib.hid hb; clear hb)
    go_ret
    exact ⟨rfl, ((Below.refl w.heap.size w).alloc (Nat.le_refl _) _).trans (HB.out.mono (by simp))⟩
  · go_enter Try.func7, Try.ntmps7
    go_wp2_with (go_at_call 12; refine (alive _).mono ?_; rintro e w1 ⟨rfl, hb⟩; have HB := Lib.hid hb; clear hb)
    go_ret
    exact ⟨rfl, ((Below.refl w.heap.size w).alloc (Nat.le_refl _) _).trans (HB.out.mono (by simp))⟩
theorem asks37 (w : World) (g : Nat) (y : Int) (h : w.cell? ⟨g, 0, none⟩ = some (.int .i64 y)) (hg : g < w.heap.size) : Asks w (.func (.func 37) #[] #[.pointer (some ⟨g, 0, none⟩)]) (fun x => decide (y < x)) :=
  fun x W hb => ask37 x y g W ((hb.cell (p := ⟨g, 0, none⟩) hg).trans h)
theorem asks39 (w : World) (g : Nat) (y : Int) (h : w.cell? ⟨g, 0, none⟩ = some (.int .i64 y)) (hg : g < w.heap.size) : Asks w (.func (.func 39) #[] #[.pointer (some ⟨g, 0, none⟩)]) (fun x => decide (y < x)) :=
  fun x W hb => ask39 x y g W ((hb.cell (p := ⟨g, 0, none⟩) hg).trans h)
/-- Where the first one stands. -/
theorem fst_facts (p : Int → Bool) (xs : List Int) : fst p xs < xs.length ∧ ∀ (k : Nat) z, xs[k]? = some z → (p z = true → 0 ≤ fst p xs ∧ fst p xs ≤ k) ∧ (p z = false → fst p xs ≠ k) := by
  by_cases hex : ∃ (k : Nat) (z : Int), xs[k]? = some z ∧ p z = true
  · obtain ⟨j, ⟨y, hy, hpy⟩, hmin⟩ : ∃ j : Nat, (∃ y, xs[j]? = some y ∧ p y = true) ∧ ∀ i, i < j → ¬ ∃ y, xs[i]? = some y ∧ p y = true := by
      obtain ⟨k, z, h1, h2⟩ := hex
      have key : ∀ n k : Nat, k ≤ n → (∃ y, xs[k]? = some y ∧ p y = true) → ∃ j : Nat, (∃ y, xs[j]? = some y ∧ p y = true) ∧ ∀ i, i < j → ¬ ∃ y, xs[i]? = some y ∧ p y = true := by
        intro n
        induction n with
        | zero => exact fun k hk h => ⟨k, h, fun i hi => by omega⟩
        | succ n ih =>
          intro k hk h
          by_cases he : ∃ i, i < k ∧ ∃ y, xs[i]? = some y ∧ p y = true
          · obtain ⟨i, hi, h'⟩ := he
            exact ih i (by omega) h'
          · exact ⟨k, h, fun i hi h' => he ⟨i, hi, h'⟩⟩
      exact key k k (Nat.le_refl _) ⟨z, h1, h2⟩
    have hf := fst_at p xs j y hy hpy (fun i z hi hz => by
      cases hpz : p z with
      | false => rfl
      | true => exact absurd ⟨z, hz, hpz⟩ (hmin i hi))
    have hjl := (List.getElem?_eq_some_iff.1 hy).1
    rw [hf]
    refine ⟨by omega, fun k z hz => ⟨fun hp => ⟨by omega, ?_⟩, fun hp e => ?_⟩⟩
    · by_cases hkj : k < j
      · exact absurd ⟨z, hz, hp⟩ (hmin k hkj)
      · omega
    · have : j = k := by omega
      subst this
      rw [hy] at hz
      obtain rfl := Option.some.inj hz
      rw [hpy] at hp
      cases hp
  · have hno : ∀ (j : Nat) (y : Int), j < xs.length → xs[j]? = some y → p y = false := fun j y _ hy => by
      cases hpy : p y with
      | false => rfl
      | true => exact absurd ⟨j, y, hy, hpy⟩ hex
    rw [fst_no p xs hno]
    refine ⟨by omega, fun k z hz => ⟨fun hp => absurd ⟨k, z, hz, hp⟩ hex, fun _ => by omega⟩⟩

set_option maxRecDepth 100000 in
set_option maxHeartbeats 8000000 in
theorem walk_in (n : Int) (lv : Value) (l : List Int) (hl : l.length ≤ 100) (hl0 : 0 < l.length) (w : World) (h : SI w lv l) (n0 : -9223372036854775808 ≤ n) (n1 : n ≤ 9223372036854775807) :
    Calls Try.prog 7 #[lv, .int .i64 n] w fun e w' => e = .returned (.bool true) ∧ Below w.heap.size w w' := by
  have hmf : ∀ (fn : Fn) (first cap : Array Value) (w : World), (Instr.makeFunc fn first cap).run Try.prog w = .ok (.func fn first cap) w := fun _ _ _ _ => rfl
  obtain ⟨w1, hw1⟩ : ∃ w1, w1 = w.alloc (.cells #[.int .i64 n] 3) := ⟨_, rfl⟩
  have HSI : Hid (SI w1 lv l) := by show SI _ _ _; rw [hw1]; exact h.below ((Below.refl _ _).alloc (Nat.le_refl _) _)
  have HC : Hid (w1.cell? ⟨w.heap.size, 0, none⟩ = some (.int .i64 n)) := by show _ = _; rw [hw1, cell_of_row _ _ _ _ _ _ (heap_alloc_new _ _)]; rfl
  have HLT : Hid (w.heap.size < w1.heap.size) := by show _ < _; rw [hw1]; simp
  have HB1 : Hid (Below w.heap.size w w1) := by show Below _ _ _; rw [hw1]; exact (Below.refl _ _).alloc (Nat.le_refl _) _
  obtain ⟨x, c, rfl, hx1, hx2, hx3⟩ := h
  unfold maxLen at hx2
  have hlen0 : ((l.length : Int) == 0) = false := by simp; intro e; rw [e] at hl0; simp at hl0
  have hlen1 : ¬ (100 : Int) < l.length := by omega
  have HW1 := Lib.hid hw1
  clear hx3 hw1
  go_enter Try.func7, Try.ntmps7
  go_wp2_with fail
  rw [← HW1.out]
  refine (newI l.length hl0 (by omega) w1).mono ?_
  rintro e w2 ⟨rfl, hw2⟩
  have S2 : Hid (Ord w1 w2 w1.heap.size l.length (.slice none 0 0) [] (.slice none 0 0) []) := by
    show Ord _ _ _ _ _ _ _ _
    rw [hw2]
    exact ⟨RG.new w1 _, Rw.nil _ _ _, fun k hk => by simp [Value.ownBlock] at hk, Nat.le_refl _, fun k hk => by simp [Value.ownBlock] at hk, fun k hk => by simp [Value.ownBlock] at hk, (Below.refl _ _).alloc (Nat.le_refl _) _⟩
  clear hw2
  go_wp2_with fail
  refine (mapIB _ l 37 #[.pointer (some ⟨w.heap.size, 0, none⟩)] (fun x => decide (n < x)) w2 (HSI.out.below S2.out.hb) (by omega) (asks37 w2 w.heap.size n ((S2.out.hb.cell (p := ⟨w.heap.size, 0, none⟩) HLT.out).trans HC.out) (by have := S2.out.hb.size; have := HLT.out; omega))).mono ?_
  rintro e w3 ⟨gm, rfl, hgm, hh, hb⟩
  have S3 := Lib.hid (S2.out.below hb)
  have hml : (l.map fun x => decide (n < x)).length = l.length := by simp
  have HH : Hid (w3.heap[gm]? = some (.cells ((l.map fun x => decide (n < x)).map Value.bool).toArray 4 (0, 0))) := hh
  clear hb hh hgm S2
  rw [hml]
  clear hml
  go_wp2_with fail
  obtain ⟨g, hg⟩ : ∃ g, g = w1.heap.size := ⟨_, rfl⟩
  rw [← hg] at S3 ⊢
  clear hg
  generalize hM : ((l.map fun x => decide (n < x)).map Value.bool).toArray = M at HH
  have HM := Lib.hid hM
  clear hM
  go_loopg [8] l.length (fun r vi wr => ∃ (i : Nat) (v : Value), r + i = l.length ∧ vi = .int .i64 i ∧ wr.heap[gm]? = some (.cells M 4 (0, 0)) ∧ Ord w1 wr g l.length (.slice none 0 0) [] v (l.take i))
  case atStart => exact ⟨0, _, by omega, rfl, HH.out, S3.out⟩
  case round =>
    clear S3 HH
    obtain ⟨i, v, hr, rfl, hh, hs⟩ := hrel
    have S := Lib.hid hs
    have HH := Lib.hid hh
    clear hh hs
    by_cases hlt : i < l.length
    · have hxi : l[i]? = some (l[i]'hlt) := List.getElem?_eq_getElem hlt
      generalize l[i]'hlt = z at hxi
      obtain ⟨x', c', e', _, _, h3⟩ := HSI.out
      obtain ⟨b, o, hxb, hb1, hb2⟩ := h3 i z hxi
      simp only [Value.slice.injEq] at e'
      obtain ⟨rfl, _, rfl⟩ := e'
      subst hxb
      have hc1 : wr.cell? ⟨b, o + i, none⟩ = some (.int .i64 z) := (S.out.hb.cell (p := ⟨b, o + i, none⟩) hb1).trans hb2
      have HT : Hid (l.take i ++ [z] = l.take (i + 1)) := by
        have := List.getElem?_eq_some_iff.1 hxi
        obtain ⟨h1, h2⟩ := this
        show _ = _
        rw [List.take_succ_eq_append_getElem h1, h2]
      have hTl : (l.take i).length < l.length := by simp; omega
      have HTl := Lib.hid hTl
      clear h3 hb2 hxi hTl
      go_wp2_with fail
      refine (pushI S.out.rg HTl.out (by omega) z).mono ?_
      rintro e w4 ⟨v4, rfl, hrg, hm, hanew⟩
      have s4 : Ord w1 w4 g l.length (.slice none 0 0) [] v4 (l.take i ++ [z]) := S.out.turn (by simpa using hrg) hm hanew
      have h4 : w4.heap[gm]? = some (.cells M 4 (0, 0)) := (hm.block gm (Array.getElem?_eq_some_iff.1 HH.out).1 (fun e => by
        rcases e with e | e
        · have := HH.out
          rw [e, S.out.rg.1] at this
          injection this with this; injection this with _ ht; exact absurd ht (by decide)
        · exact S.out.rg.2.ty HH.out (by decide) e)).trans HH.out
      rw [HT.out] at s4
      have S4 := Lib.hid s4
      have H4 := Lib.hid h4
      clear s4 h4 hrg hm hanew S HH HT
      go_wp2_with fail
      go_roundg (l.length - (i + 1))
      case measure => omega
      case rel => exact ⟨i + 1, v4, by omega, by go_num, H4.out, S4.out⟩
    · have hil : i = l.length := by omega
      have hT : l.take i = l := by rw [hil, List.take_length]
      have S5 : Hid (Ord w1 wr g l.length (.slice none 0 0) [] v l) := by
        have := S.out
        rw [hT] at this
        exact this
      have A5 := Lib.hid (asks39 wr w.heap.size n ((S5.out.hb.cell (p := ⟨w.heap.size, 0, none⟩) HLT.out).trans HC.out) (by have := S5.out.hb.size; have := HLT.out; omega))
      clear hT S hil
      go_wp2_with fail
      refine (findI S5.out.rg (by omega) 39 _ _ A5.out).mono ?_
      rintro e w6 ⟨rfl, rfl⟩
      obtain ⟨F1, F2⟩ := fst_facts (fun x => decide (n < x)) l
      have HF2 := Lib.hid F2
      generalize fst (fun x => decide (n < x)) l = at_ at F1 HF2 ⊢
      have HB6 := Lib.hid S5.out.hb
      clear A5 F2 S5
      go_wp2_with fail
      go_loopg [10] l.length (fun r vi wr => ∃ k : Nat, r + k = l.length ∧ vi = .int .i64 k ∧ wr.heap[gm]? = some (.cells M 4 (0, 0)) ∧ Below w1.heap.size w1 wr)
      case atStart => exact ⟨0, by omega, rfl, HH.out, HB6.out⟩
      case round =>
        clear HH HB6
        obtain ⟨k, hr7, rfl, hh7, hb7⟩ := hrel
        by_cases hlt : k < l.length
        · have hxi : l[k]? = some (l[k]'hlt) := List.getElem?_eq_getElem hlt
          generalize l[k]'hlt = z at hxi
          obtain ⟨x', c', e', _, _, h3⟩ := HSI.out
          obtain ⟨b, o, hxb, hb1, hb2⟩ := h3 k z hxi
          simp only [Value.slice.injEq] at e'
          obtain ⟨rfl, _, rfl⟩ := e'
          subst hxb
          have hc1 : wr.cell? ⟨b, o + k, none⟩ = some (.int .i64 z) := (hb7.cell (p := ⟨b, o + k, none⟩) hb1).trans hb2
          have hc2 : wr.cell? ⟨w.heap.size, 0, none⟩ = some (.int .i64 n) := (hb7.cell (p := ⟨w.heap.size, 0, none⟩) HLT.out).trans HC.out
          have hc3 : wr.cell? ⟨gm, k, none⟩ = some (.bool (decide (n < z))) := by
            rw [cell_of_row _ _ _ _ _ _ hh7, ← HM.out]
            simp [hxi]
          obtain ⟨q1, q2⟩ := HF2.out k z hxi
          have HH7 := Lib.hid hh7
          have HB7 := Lib.hid hb7
          clear h3 hb2 hxi hh7 hb7
          by_cases hnz : n < z
          · obtain ⟨q3, q4⟩ := q1 (by simpa using hnz)
            rw [show decide (n < z) = true by simpa using hnz] at hc3
            have hd1 : decide (at_ < 0) = false := by simp; omega
            have hd2 : decide ((k : Int) < at_) = false := by simp; omega
            clear q1 q2
            by_cases hka : (k : Int) = at_
            · have hd3 : ((k : Int) == at_) = true := by simpa using hka
              clear hka
              go_wp2_with fail
              go_quiet (fail)
              go_wp2_with fail
              go_roundg (l.length - (k + 1))
              case measure => omega
              case rel => exact ⟨k + 1, by omega, by go_num, HH7.out, ⟨HB7.out.os, HB7.out.tape, HB7.out.output, HB7.out.size, HB7.out.block⟩⟩
            · have hd3 : ((k : Int) == at_) = false := by simpa using hka
              clear hka
              go_wp2_with fail
              go_quiet (fail)
              go_wp2_with fail
              go_roundg (l.length - (k + 1))
              case measure => omega
              case rel => exact ⟨k + 1, by omega, by go_num, HH7.out, ⟨HB7.out.os, HB7.out.tape, HB7.out.output, HB7.out.size, HB7.out.block⟩⟩
          · have hka := q2 (by simpa using hnz)
            rw [show decide (n < z) = false by simpa using hnz] at hc3
            have hd3 : ((k : Int) == at_) = false := by simpa using fun e => hka e.symm
            clear q1 q2 hka
            have hnz2 : decide (n < z) = false := by simpa using hnz
            clear hnz
            go_wp2_with fail
            go_quiet (fail)
            go_wp2_with fail
            go_roundg (l.length - (k + 1))
            case measure => omega
            case rel => exact ⟨k + 1, by omega, by go_num, HH7.out, ⟨HB7.out.os, HB7.out.tape, HB7.out.output, HB7.out.size, HB7.out.block⟩⟩
        · have HB7 := Lib.hid hb7
          clear hh7 hb7
          have hal := F1
          go_wp2_with (go_at_call 12; refine (alive _).mono ?_; rintro e w8 ⟨rfl, hb⟩; have HB := Lib.hid ((HB1.out.trans (HB7.out.mono HB1.out.size)).trans (hb.mono (Nat.le_trans HB1.out.size HB7.out.size))); clear hb)
          go_ret
          exact ⟨rfl, HB.out⟩

theorem walk (n : Int) (lv : Value) (l : List Int) (w : World) (h : SI w lv l) (n0 : -9223372036854775808 ≤ n) (n1 : n ≤ 9223372036854775807) :
    Calls Try.prog 7 #[lv, .int .i64 n] w fun e w' => e = .returned (.bool true) ∧ Below w.heap.size w w' := by
  by_cases hg : 100 < l.length ∨ l.length = 0
  · obtain ⟨x, c, rfl, hx1, hx2, hx3⟩ := h
    unfold maxLen at hx2
    exact walk_out n x _ c (by omega) hg w
  · exact walk_in n lv l (by omega) (by omega) w h n0 n1

set_option maxRecDepth 100000 in
theorem lifted (os : Os) (started : os.Started) (H : Type) (enc : TypeId × Value → H) :
    ReturnsInHanded {} Try.checked os 7 .any (Rows.ringMapsSpec.pre6 enc Try.prog Try.f7 Rows.ringMapsRow.domain false) (Rows.ringMapsSpec.post enc Try.prog Try.f7 false true false false) := by
  refine returnsInHanded_of_change (C := Try.checked) own started (by kernel_rfl) Try.func7
    (ChangeSpec.witness6 (enc := enc) (C := Try.checked) false ⟨#[], #[.slice none 0 0, .int .i64 0], []⟩ 8 (by kernel_rfl) (by kernel_rfl) (by kernel_rfl) (by kernel_rfl)) ?_
  intro W base args ds gs before hval0 hW hcnd _
  have hval : ∀ (j : Nat) t v, Try.f7.params[j]? = some t → args[j]? = some v → Value.okWide Try.prog W .any base t v := hval0
  have hW' := hW
  obtain ⟨p, q, hA0, hV, rfl, hfz, hnd⟩ := hW
  have hA : DataW.TrodAll enc Try.prog W 0 (fun _ => true) true Try.f7.params.toList args.toList ds p := hA0
  rw [Try.params7] at hA hval
  obtain ⟨v0, vs0, d0, ds0, p0, q0, hargs, rfl, rfl, h0, r0⟩ := trodAll_cons hA
  obtain ⟨v1, vs1, d1, ds1, p1, q1, rfl, rfl, rfl, h1, r1⟩ := trodAll_cons r0
  obtain ⟨rfl, rfl, rfl⟩ := trodAll_nil r1
  obtain rfl : args = #[v0, v1] := by cases args; simp_all
  obtain ⟨rfl, rfl⟩ := trodVars_none hV
  obtain ⟨x0, s0⟩ := open_si (hval 0 29 v0 rfl rfl) h0
  obtain ⟨a1, rfl, rfl, rfl, w1⟩ := open_int Try.underlying3 (hval 1 3 v1 rfl rfl) h1
  have b1 := bounds_i64 w1
  refine (walk a1 v0 x0 W s0 b1.1 b1.2).mono fun e W' ⟨he, hb⟩ => ?_
  subst he
  exact ⟨_, rfl, law_post hW' rfl rfl rfl (by kernel_rfl) hb⟩

/-- The statement. -/
theorem proved : Rows.RingMapsSaid :=
  OpenClaim.holds_of_wide 7 Try.f7 rfl rfl rfl rfl rfl rfl rfl ⟨rfl, rfl, rfl, rfl, rfl⟩ rfl rfl rfl rfl rfl (by kernel_rfl) Try.func7 (by kernel_rfl)
    (of_decide_eq_true (by kernel_rfl)) (by unfold Func.isWrapper; first | (rw [if_pos (by decide +kernel)]; kernel_rfl) | (rw [if_neg (by decide +kernel)]; exact ⟨rfl, rfl⟩))
    (fun os started H enc _ => lifted os started H enc)
#print axioms proved
end Go.Proofs.Ytfdihgahegfamaa.ringMaps
