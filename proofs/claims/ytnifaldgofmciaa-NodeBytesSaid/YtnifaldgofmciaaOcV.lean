/-
  The reader's contracts once more, with the place of the bytes: they lie in a block in front of B. Condition: the block is a reader.
-/
import Derived.Test.YtnifaldgofmciaaNdK
namespace Go.Proofs.Ytnifaldgofmciaa.ov
open Go.RowKit
open oc (Byt Sees nth shrt got rst getV bcells grownBy_refl grownBy_setRow sees_nil frozen_block take_short take_less take_some width8 width32 width64 get8 get32 get64 sees_alloc filled got_len grownBy_trans)
/-- Block g is a reader of bytes that lie in a block in front of B. -/
def RD (B : Nat) (w : World) (g : Nat) (xs : List Int) (s : Bool) : Prop :=
  Byt xs ∧ ∃ b o cap, w.heap[g]? = some (.cells #[.slice (some ⟨b, o, none⟩) xs.length cap, .bool s] 106 (0, 0)) ∧ b ≠ g ∧ b < B ∧ xs.length ≤ cap ∧ cap ≤ maxLen ∧
    ∀ i, i < xs.length → w.cell? ⟨b, o + i, none⟩ = some (.int .u8 (nth xs i))

def TakeP (B : Nat) (w : World) (g : Nat) (xs : List Int) (s : Bool) (n : Int) (e : Ending) (w' : World) : Prop :=
  ∃ v, e = .returned v ∧ Sees w' v (got xs s n) ∧ v.ownBlock ≠ some g ∧ RD B w' g (rst xs s n) (shrt xs.length s n) ∧ w.grownBy w' (some g)

theorem take_rd (B : Nat) (g : Nat) (xs : List Int) (s : Bool) (n : Int) (w : World) (h : RD B w g xs s) : Calls Try.prog 62 #[.pointer (some ⟨g, 0, none⟩), .int .i64 n] w (TakeP B w g xs s n) := by
  obtain ⟨hb, b, o, cap, hg, hne, hB, hl, hm, hc⟩ := h
  have c0 : w.cell? ⟨g, 0, none⟩ = some (.slice (some ⟨b, o, none⟩) xs.length cap) := by rw [cell_of_row w g 0 _ _ _ hg]; rfl
  have c1 : w.cell? ⟨g, 1, none⟩ = some (.bool s) := by rw [cell_of_row w g 1 _ _ _ hg]; rfl
  cases s with
  | true =>
    refine (take_short g n w c1).mono ?_
    rintro e w' ⟨rfl, rfl⟩
    have e1 : got xs true n = [] := by simp [got, shrt]
    have e2 : rst xs true n = xs := by simp [rst, shrt]
    have e3 : shrt xs.length true n = true := by simp [shrt]
    exact ⟨_, rfl, by rw [e1]; exact sees_nil _, by simp [Value.ownBlock], by rw [e2, e3]; exact ⟨hb, b, o, cap, hg, hne, hB, hl, hm, hc⟩, grownBy_refl _ _⟩
  | false =>
    by_cases hn : n < 0 ∨ (xs.length : Int) < n
    · refine (take_less g b o xs.length cap n hn w c0 c1 (frozen_block hg 1)).mono ?_
      rintro e w' ⟨rfl, rfl⟩
      have e3 : shrt xs.length false n = true := by simp [shrt]; exact hn
      have e1 : got xs false n = [] := by simp [got, e3]
      have e2 : rst xs false n = xs := by simp [rst, e3]
      rw [setCell_eq_setRow w g 1 _ _ _ _ hg]
      refine ⟨_, rfl, by rw [e1]; exact sees_nil _, by simp [Value.ownBlock], ?_, grownBy_setRow _ _ _⟩
      rw [e2, e3]
      exact ⟨hb, b, o, cap, setRow_heap w g _ _ _ _ hg, hne, hB, hl, hm, fun i hi => by rw [cell_setRow_other _ _ _ _ hne]; exact hc i hi⟩
    · obtain ⟨q, rfl⟩ := Int.eq_ofNat_of_zero_le (show 0 ≤ n by omega)
      have hq : q ≤ xs.length := by omega
      have e3 : shrt xs.length false (q : Int) = false := by simp [shrt]; omega
      have e1 : got xs false (q : Int) = xs.take q := by simp [got, e3]
      have e2 : rst xs false (q : Int) = xs.drop q := by simp [rst, e3]
      have hm' := hm
      unfold maxLen at hm'
      refine (take_some g b o xs.length cap q hq hl (by omega) w c0 c1 (frozen_block hg 0)).mono ?_
      rintro e w' ⟨rfl, rfl⟩
      rw [setCell_eq_setRow w g 0 _ _ _ _ hg]
      have hsees : Sees (w.setRow g (#[Value.slice (some ⟨b, o, none⟩) xs.length cap, .bool false].setIfInBounds 0 (.slice (some ⟨b, if cap = q then o else o + q, none⟩) (xs.length - q) (cap - q)))) (.slice (some ⟨b, o, none⟩) q cap) (xs.take q) := by
        refine ⟨hb.take q, ?_⟩
        by_cases h0 : xs.take q = []
        · have : q = 0 := by
            have h2 := congrArg List.length h0
            rw [List.length_take, Nat.min_eq_left hq] at h2
            exact h2
          subst this
          exact .inr (.inl ⟨_, _, rfl, rfl, hm⟩)
        · refine .inr (.inr ⟨b, o, cap, by simp [Nat.min_eq_left hq], h0, by simp; omega, hm, fun i hi => ?_⟩)
          have hi' : i < q := by simp at hi; omega
          rw [cell_setRow_other _ _ _ _ hne, hc i (by omega)]
          simp [nth, List.getD, List.getElem?_take_of_lt hi']
      refine ⟨_, rfl, by rw [e1]; exact hsees, by simp [Value.ownBlock]; exact hne, ?_, grownBy_setRow _ _ _⟩
      rw [e2, e3]
      refine ⟨hb.drop q, b, _, cap - q, by rw [List.length_drop]; exact setRow_heap w g _ _ _ _ hg, hne, hB, by simp; omega, by unfold maxLen; omega, fun i hi => ?_⟩
      have hi' : q + i < xs.length := by simp at hi; omega
      rw [if_neg (by omega), cell_setRow_other _ _ _ _ hne, Nat.add_assoc, hc (q + i) hi']
      simp [nth, List.getD, List.getElem?_drop]

theorem rd_made (B : Nat) (w : World) (xs : List Int) (hb : Byt xs) (hm : xs.length ≤ maxLen) (hB : w.heap.size < B) :
    RD B ((w.alloc (.cells (bcells xs) 5)).alloc (.cells #[.slice (some ⟨w.heap.size, 0, none⟩) xs.length xs.length, .bool false] 106)) (w.heap.size + 1) xs false := by
  refine ⟨hb, w.heap.size, 0, xs.length, ?_, by omega, hB, Nat.le_refl _, hm, fun i hi => ?_⟩
  · have := heap_alloc_new (w.alloc (.cells (bcells xs) 5)) (.cells #[.slice (some ⟨w.heap.size, 0, none⟩) xs.length xs.length, .bool false] 106)
    simpa using this
  · obtain ⟨_, ⟨h1, _⟩ | ⟨a, c, h1, h2, _⟩ | ⟨b, o, c, h1, _, _, _, h2⟩⟩ := sees_alloc w xs hb xs.length xs.length rfl (Nat.le_refl _) hm []
    · simp at h1
    · subst h2; simp at hi
    · simp only [Value.slice.injEq, Option.some.injEq, Addr.mk.injEq] at h1
      obtain ⟨⟨rfl, rfl, _⟩, _, rfl⟩ := h1
      rw [List.append_nil] at h2
      exact World.Extends.cell_of ((World.Extends.refl _).alloc _) (h2 i hi)

def NumP8 (B : Nat) (w : World) (g : Nat) (xs : List Int) (s : Bool) (e : Ending) (w' : World) : Prop :=
  e = .returned (.int .u8 (getV (got xs s 1) 0 1)) ∧ RD B w' g (rst xs s 1) (shrt xs.length s 1) ∧ w.grownBy w' (some g)
theorem next8 (B : Nat) (g : Nat) (xs : List Int) (s : Bool) (w : World) (h : RD B w g xs s) : Calls Try.prog 61 #[.pointer (some ⟨g, 0, none⟩)] w (NumP8 B w g xs s) := by
  have H := Lib.hid h
  clear h
  go_enter Try.func61, Try.ntmps61
  go_wp2_with (first
    | (go_at_call 66; refine (width8 _).mono ?_; rintro e w' ⟨rfl, rfl⟩)
    | (go_at_call 62; refine (take_rd B g xs s 1 _ H.out).mono ?_; rintro e w1 ⟨v, rfl, hs, _, hr, hg⟩; have HS := Lib.hid hs; have HR := Lib.hid hr; have HG := Lib.hid hg; clear hs hr hg)
    | (go_at_call 65; refine (get8 _ _ 0 (by decide) _ HS.out).mono ?_; rintro e w' ⟨rfl, rfl⟩))
  go_ret
  exact ⟨rfl, HR.out, HG.out⟩
theorem u8 (B : Nat) (g : Nat) (xs : List Int) (s : Bool) (w : World) (h : RD B w g xs s) : Calls Try.prog 50 #[.pointer (some ⟨g, 0, none⟩)] w (NumP8 B w g xs s) := by
  have H := Lib.hid h
  clear h
  go_enter Try.func50, Try.ntmps50
  go_wp2_with (go_at_call 61; refine (next8 B g xs s _ H.out).mono ?_; rintro e w1 ⟨rfl, hr, hg⟩; have HR := Lib.hid hr; have HG := Lib.hid hg; clear hr hg)
  go_ret
  exact ⟨rfl, HR.out, HG.out⟩
def NumP32 (B : Nat) (w : World) (g : Nat) (xs : List Int) (s : Bool) (e : Ending) (w' : World) : Prop :=
  e = .returned (.int .u32 (getV (got xs s 4) 0 4)) ∧ RD B w' g (rst xs s 4) (shrt xs.length s 4) ∧ w.grownBy w' (some g)
theorem next32 (B : Nat) (g : Nat) (xs : List Int) (s : Bool) (w : World) (h : RD B w g xs s) : Calls Try.prog 64 #[.pointer (some ⟨g, 0, none⟩)] w (NumP32 B w g xs s) := by
  have H := Lib.hid h
  clear h
  go_enter Try.func64, Try.ntmps64
  go_wp2_with (first
    | (go_at_call 47; refine (width32 _).mono ?_; rintro e w' ⟨rfl, rfl⟩)
    | (go_at_call 62; refine (take_rd B g xs s 4 _ H.out).mono ?_; rintro e w1 ⟨v, rfl, hs, _, hr, hg⟩; have HS := Lib.hid hs; have HR := Lib.hid hr; have HG := Lib.hid hg; clear hs hr hg)
    | (go_at_call 68; refine (get32 _ _ 0 (by decide) _ HS.out).mono ?_; rintro e w' ⟨rfl, rfl⟩))
  go_ret
  exact ⟨rfl, HR.out, HG.out⟩
theorem u32 (B : Nat) (g : Nat) (xs : List Int) (s : Bool) (w : World) (h : RD B w g xs s) : Calls Try.prog 53 #[.pointer (some ⟨g, 0, none⟩)] w (NumP32 B w g xs s) := by
  have H := Lib.hid h
  clear h
  go_enter Try.func53, Try.ntmps53
  go_wp2_with (go_at_call 64; refine (next32 B g xs s _ H.out).mono ?_; rintro e w1 ⟨rfl, hr, hg⟩; have HR := Lib.hid hr; have HG := Lib.hid hg; clear hr hg)
  go_ret
  exact ⟨rfl, HR.out, HG.out⟩
def NumP64 (B : Nat) (w : World) (g : Nat) (xs : List Int) (s : Bool) (e : Ending) (w' : World) : Prop :=
  e = .returned (.int .u64 (getV (got xs s 8) 0 8)) ∧ RD B w' g (rst xs s 8) (shrt xs.length s 8) ∧ w.grownBy w' (some g)
theorem next64 (B : Nat) (g : Nat) (xs : List Int) (s : Bool) (w : World) (h : RD B w g xs s) : Calls Try.prog 63 #[.pointer (some ⟨g, 0, none⟩)] w (NumP64 B w g xs s) := by
  have H := Lib.hid h
  clear h
  go_enter Try.func63, Try.ntmps63
  go_wp2_with (first
    | (go_at_call 46; refine (width64 _).mono ?_; rintro e w' ⟨rfl, rfl⟩)
    | (go_at_call 62; refine (take_rd B g xs s 8 _ H.out).mono ?_; rintro e w1 ⟨v, rfl, hs, _, hr, hg⟩; have HS := Lib.hid hs; have HR := Lib.hid hr; have HG := Lib.hid hg; clear hs hr hg)
    | (go_at_call 67; refine (get64 _ _ 0 (by decide) _ HS.out).mono ?_; rintro e w' ⟨rfl, rfl⟩))
  go_ret
  exact ⟨rfl, HR.out, HG.out⟩
theorem u64 (B : Nat) (g : Nat) (xs : List Int) (s : Bool) (w : World) (h : RD B w g xs s) : Calls Try.prog 52 #[.pointer (some ⟨g, 0, none⟩)] w (NumP64 B w g xs s) := by
  have H := Lib.hid h
  clear h
  go_enter Try.func52, Try.ntmps52
  go_wp2_with (go_at_call 63; refine (next64 B g xs s _ H.out).mono ?_; rintro e w1 ⟨rfl, hr, hg⟩; have HR := Lib.hid hr; have HG := Lib.hid hg; clear hr hg)
  go_ret
  exact ⟨rfl, HR.out, HG.out⟩
def BytesP (B : Nat) (w : World) (g : Nat) (xs : List Int) (s : Bool) (n : Int) (e : Ending) (w' : World) : Prop :=
  ∃ q, e = .returned (.slice (some ⟨q, 0, none⟩) (got xs s n).length (got xs s n).length) ∧ Sees w' (.slice (some ⟨q, 0, none⟩) (got xs s n).length (got xs s n).length) (got xs s n) ∧ w.heap.size ≤ q ∧
    RD B w' g (rst xs s n) (shrt xs.length s n) ∧ w.grownBy w' (some g)

theorem RD.below {B : Nat} {w w' : World} {g : Nat} {xs : List Int} {s : Bool} (h : RD B w g xs s) (hb : Below w.heap.size w w') : RD B w' g xs s := by
  obtain ⟨h1, b, o, cap, hg, hne, hB, hl, hm, hc⟩ := h
  exact ⟨h1, b, o, cap, (hb.block g (Array.getElem?_eq_some_iff.1 hg).1).trans hg, hne, hB, hl, hm, fun i hi => (hb.cell (World.block_lt_of_cell? w _ (hc i hi))).trans (hc i hi)⟩
theorem RD.lt {B : Nat} {w : World} {g : Nat} {xs : List Int} {s : Bool} (h : RD B w g xs s) : g < w.heap.size := by
  obtain ⟨_, _, _, _, hg, _⟩ := h
  exact (Array.getElem?_eq_some_iff.1 hg).1
theorem bytes_rd (B : Nat) (g : Nat) (xs : List Int) (s : Bool) (n : Int) (hl : xs.length ≤ 140737488355328) (w : World) (h : RD B w g xs s) : Calls Try.prog 51 #[.pointer (some ⟨g, 0, none⟩), .int .i64 n] w (BytesP B w g xs s n) := by
  have H := Lib.hid h
  clear h
  go_enter Try.func51, Try.ntmps51
  go_wp2_with fail
  refine (take_rd B g xs s n _ H.out).mono ?_
  rintro e w1 ⟨v, rfl, hs, _, hr, hg⟩
  obtain ⟨x, c, rfl, h63⟩ := hs.form
  have HS := Lib.hid hs
  have HR := Lib.hid hr
  have HG := Lib.hid hg
  have hgl := got_len xs s n
  clear hs hr hg
  go_wp2_with fail
  refine (filled _ (got xs s n) (got xs s n).length (Nat.le_refl _) (by omega) _ HS.out).mono ?_
  rintro e w2 ⟨rfl, hw⟩
  have HW := Lib.hid hw
  clear hw
  go_wp2_with fail
  go_ret
  have hb : Below w1.heap.size w1 w2 := by rw [← HW.out]; exact (Below.refl _ _).alloc (Nat.le_refl _) _
  refine ⟨w1.heap.size, rfl, ?_, HG.out.size, RD.below HR.out hb, ?_⟩
  · rw [← HW.out, Nat.sub_self]
    have := sees_alloc w1 (got xs s n) HS.out.1 (got xs s n).length (got xs s n).length rfl (Nat.le_refl _) (by unfold maxLen; omega) (List.replicate 0 0)
    exact this
  · rw [← HW.out]
    exact grownBy_trans HG.out (World.grownBy_alloc _ _ _)

theorem RD.kept {B : Nat} {w w' : World} {row : Option Nat} {g : Nat} {xs : List Int} {s : Bool} (h : RD B w g xs s) (hg : w.grownBy w' row) (h1 : row ≠ some g) (h2 : ∀ k, row = some k → B ≤ k) : RD B w' g xs s := by
  obtain ⟨hb, b, o, cap, hgg, hne, hB, hl, hm, hc⟩ := h
  refine ⟨hb, b, o, cap, (hg.block g (Array.getElem?_eq_some_iff.1 hgg).1 (Ne.symm h1)).trans hgg, hne, hB, hl, hm, fun i hi => ?_⟩
  have hlt := World.block_lt_of_cell? w _ (hc i hi)
  have e := hg.block b hlt (fun e => by have := h2 b e.symm; omega)
  rw [← hc i hi]
  simp only [World.cell?, e]
end Go.Proofs.Ytnifaldgofmciaa.ov
