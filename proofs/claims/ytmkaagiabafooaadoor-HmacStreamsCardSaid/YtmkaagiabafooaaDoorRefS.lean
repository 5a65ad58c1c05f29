/-
  Contracts of the document's own functions of package hmac: streams. Condition: the slices read as bytes, of bounded length; at most 255 parts.
-/
import Derived.Test.YtmkaagiabafooaaDoorRefM
namespace Go.Proofs.YtmkaagiabafooaaDoor
open Go.RowKit
theorem Own.in_heap {w : World} {base : Nat} {v : Value} {xs : List Int} (h : Own w base v xs) (k : Nat) (e : v.ownBlock = some k) : k < w.heap.size := by
  obtain ⟨_, _, ⟨rfl, _⟩ | ⟨g, cap, cur, rfl, _, hg, _⟩⟩ := h
  · simp [Value.ownBlock] at e
  · simp only [Value.ownBlock, Option.some.injEq] at e
    rw [← e]; exact blk_lt hg
set_option maxRecDepth 100000 in
set_option maxHeartbeats 8000000 in
theorem streamD (vk vn : Value) (key name : List Int) (n : Nat) (hn : n ≤ 255) (w : World) (hk : Sees w vk key) (hv : Sees w vn name) (lk : key.length ≤ 1000) (ln : name.length ≤ 1000) :
    Calls Tryd.prog 41 #[vk, vn, .int .i64 n] w (OwnP w (tstr key name n)) := by
  obtain ⟨x1, c1, rfl, _⟩ := id hk.form
  obtain ⟨x2, c2, rfl, _⟩ := id hv.form
  have HK := Lib.hid hk
  have HV := Lib.hid hv
  have LK := Lib.hid lk
  have LN := Lib.hid ln
  have TL : Hid (∀ i, (tstr key name i).length = 32 * i) := tstr_len key name hk.1
  have TP : Hid (∀ i, (tpart key name i).length ≤ 32) := fun i => by
    cases i with
    | zero => simp [tpart]
    | succ i => rw [tpart_len key name hk.1 i]; omega
  have TP1 : Hid (∀ i, (tpart key name (i + 1)).length = 32) := tpart_len key name hk.1
  have TN : Hid (∀ i, tstr key name (i + 1) = tstr key name i ++ tpart key name (i + 1)) := fun _ => rfl
  have TM : Hid (∀ i, tpart key name (i + 1) = mac key (tpart key name i ++ name ++ [((i + 1 : Nat) : Int)])) := fun _ => rfl
  clear hk hv lk ln
  go_enter Tryd.func41, Tryd.ntmps41
  go_wp2_with fail
  go_loopw [7, 8, 9, 10] (fun v7 v8 vi _ wr => ∃ (j i : Nat) (q : Option Addr) (c : Nat) (p : Option Addr) (d l : Nat), j ≤ n ∧ i = j + 1 ∧ vi = .int .i64 i ∧ v7 = .slice q (32 * j) c ∧ v8 = .slice p l d ∧ l = (tpart key name j).length ∧ Own wr w.heap.size (.slice q (32 * j) c) (tstr key name j) ∧ Sees wr (.slice p l d) (tpart key name j) ∧ Below w.heap.size w wr) (fun _ _ vi _ _ => n + 1 - (intOf vi).toNat)
  case atStart => exact ⟨0, 1, none, 0, none, 0, 0, by omega, rfl, rfl, rfl, rfl, rfl, own_nil _ _, sees_nil _, Below.refl _ _⟩
  case round =>
    obtain ⟨j, i, q, c, p, d, l, hj, hi, rfl, rfl, rfl, hl, ho, hs, hb⟩ := hrel
    by_cases hlt : j < n
    · have hin : (i : Int) ≤ n := by omega
      have hi0 : (0 : Int) ≤ i := by omega
      have hi255 : (i : Int) ≤ 255 := by omega
      have hl32 := TP.out j
      have CP := Lib.hid (copy _ _ (by omega) wr hs)
      have HLN := LN.out
      have HLK := LK.out
      have HO := Lib.hid ho
      have HB := Lib.hid hb
      have HL := Lib.hid hl
      have HI := Lib.hid hi
      have hlb : l ≤ 32 := by omega
      clear ho hs hb hl hi
      generalize hT : tpart key name j = T at *
      have HT := Lib.hid hT
      clear hT
      go_wp2_with fail
      refine CP.out.mono ?_
      rintro e w1 ⟨y1, e1, rfl, ho1, hb1⟩
      have B1 := Lib.hid (HB.out.trans (hb1.mono HB.out.size))
      rw [← HL.out] at ho1 ⊢
      obtain ⟨y2, e2, w2, r2, oo2, g2, b2⟩ := app ho1 (HV.out.below B1.out) (by have := HL.out; omega) hb1.size
      rw [← HL.out] at r2 oo2
      have R2 := Lib.hid r2
      have B12 : Hid (Below wr.heap.size wr w2) := hb1.trans b2
      have O2 := Lib.hid oo2
      clear ho1 hb1 r2 oo2 g2 b2
      have ba : Below w2.heap.size w2 (w2.alloc (.cells #[.int .u8 (i : Int)] 5)) := (Below.refl _ _).alloc (Nat.le_refl _) _
      have s1 := five_sees (i : Int) w2 ⟨hi0, hi255⟩
      have hl2 : (T ++ name).length = l + name.length := by rw [List.length_append, HL.out]
      obtain ⟨y3, e3, w3, r3, oo3, g3, b3⟩ := app (O2.out.below ba) s1 (by rw [hl2]; simp; omega) (by have := B12.out.size; simp; omega)
      rw [hl2] at r3 oo3
      simp only [List.length_cons, List.length_nil, Nat.zero_add] at r3 oo3
      have R3 := Lib.hid r3
      have B13 : Hid (Below wr.heap.size wr w3) := (B12.out.trans (ba.mono B12.out.size)).trans b3
      have O3 := Lib.hid oo3
      have M3 := Lib.hid (macD _ _ _ _ w3 (HK.out.below (HB.out.trans (B13.out.mono HB.out.size))) oo3.sees (by omega) (by simp; have := HL.out; omega))
      have HM3 : Hid (mac key (T ++ name ++ [(i : Int)]) = tpart key name (j + 1)) := by show _ = _; rw [TM.out, HT.out, HI.out]
      rw [HM3.out] at M3
      clear ba s1 r3 oo3 g3 b3
      have hwr : IntKind.u8.wrap (i : Int) = i := by rw [IntKind.wrap_u8]; omega
      go_wp2_with (first
        | (at_builtin; refine wpList_app rfl (.tmp 17) (.tmp 18) rfl rfl rfl rfl R2.out ?_)
        | (at_builtin; refine wpList_app rfl (.tmp 21) (.tmp 24) rfl rfl rfl rfl R3.out ?_))
      refine M3.out.mono ?_
      rintro e w4 ⟨y4, e4, rfl, ho4, hb4⟩
      have hl4 := TP1.out j
      have B14 : Below wr.heap.size wr w4 := B13.out.trans (hb4.mono B13.out.size)
      have oo := HO.out.below B14
      obtain ⟨y5, e5, w5, r5, oo5, g5, b5⟩ := app oo ho4.sees (by rw [TL.out, hl4]; omega) (by have := HB.out.size; have := B14.size; omega)
      rw [TL.out, hl4] at r5 oo5
      rw [← TN.out] at oo5
      have s5 : Sees w5 (.slice y4 (tpart key name (j + 1)).length e4) (tpart key name (j + 1)) := by
        refine ho4.sees.grown g5 (fun k e e' => ?_)
        have h1 := (ho4.2.lt k e').1
        have h2 := HO.out.in_heap k e
        have h3 := B13.out.size
        omega
      rw [hl4] at s5 ⊢
      have R5 := Lib.hid r5
      have O5 := Lib.hid oo5
      have S5 := Lib.hid s5
      have B5 : Hid (Below w.heap.size w w5) := (HB.out.trans (B14.mono HB.out.size)).trans b5
      have L5 : Hid (32 = (tpart key name (j + 1)).length) := hl4.symm
      clear ho4 hb4 hl4 B14 oo r5 oo5 g5 b5 s5
      go_wp2_with (at_builtin; refine wpList_app rfl (.tmp 27) (.tmp 28) rfl rfl rfl rfl R5.out ?_)
      go_roundw
      case rel => exact ⟨j + 1, i + 1, y5, e5, y4, e4, 32, by omega, by have := HI.out; omega, by go_num, rfl, rfl, L5.out, O5.out, S5.out, B5.out⟩
      case measure => have := HI.out; simp [intOf]; omega
    · obtain rfl : j = n := by omega
      have hin : ¬ (i : Int) ≤ j := by omega
      have HO := Lib.hid ho
      have HB := Lib.hid hb
      clear ho hs hb hl hi
      go_wp2_with fail
      go_ret
      unfold OwnP
      rw [TL.out]
      exact ⟨_, _, rfl, HO.out, HB.out⟩
end Go.Proofs.YtmkaagiabafooaaDoor
