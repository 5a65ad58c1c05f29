/-
  Contracts of the functions that the statement OctetReads goes through: the document's reader; Bytes, Rest; a reader that is nil. Condition: the readers are ones that were made, or nil.
-/
import Derived.Test.YtmjbfjkbfnpnlaaPutsA
namespace Go.Proofs.Ytmjbfjkbfnpnlaa.octetReads
open Go.RowKit
open Go.Proofs.Ytmjbfjkbfnpnlaa.octetPuts (number)

/-- Block g is the document's reader. -/
def RX (w : World) (g : Nat) (xs : List Int) (s : Bool) : Prop :=
  Byt xs ∧ ∃ sv, w.heap[g]? = some (.cells #[sv, .bool s] 53 (0, 0)) ∧ ((sv = .slice none 0 0 ∧ xs = []) ∨
    ∃ b o cap, sv = .slice (some ⟨b, o, none⟩) xs.length cap ∧ b ≠ g ∧ xs.length ≤ cap ∧ cap ≤ maxLen ∧ ∀ i, i < xs.length → w.cell? ⟨b, o + i, none⟩ = some (.int .u8 (nth xs i)))

theorem takex_true (g : Nat) (n : Int) (w : World) (h1 : w.cell? ⟨g, 1, none⟩ = some (.bool true)) (hf : w.frozen? ⟨g, 1, none⟩ = false) :
    Calls Try.prog 26 #[.pointer (some ⟨g, 0, none⟩), .int .i64 n] w fun e w' => e = .returned (.slice none 0 0) ∧ w.setCell ⟨g, 1, none⟩ (.bool true) = w' := by
  go_enter Try.func26, Try.ntmps26
  go_wp2
  go_ret
  exact ⟨rfl, rfl⟩
theorem takex_less (g : Nat) (x : Option Addr) (l cap : Nat) (n : Int) (hn : n < 0 ∨ (l : Int) < n) (w : World) (h0 : w.cell? ⟨g, 0, none⟩ = some (.slice x l cap)) (h1 : w.cell? ⟨g, 1, none⟩ = some (.bool false))
    (hf : w.frozen? ⟨g, 1, none⟩ = false) :
    Calls Try.prog 26 #[.pointer (some ⟨g, 0, none⟩), .int .i64 n] w fun e w' => e = .returned (.slice none 0 0) ∧ w.setCell ⟨g, 1, none⟩ (.bool true) = w' := by
  rcases hn with hn | hn
  · go_enter Try.func26, Try.ntmps26
    go_wp2
    go_ret
    exact ⟨rfl, rfl⟩
  · have h3 : 0 ≤ n := by omega
    go_enter Try.func26, Try.ntmps26
    go_wp2
    go_ret
    exact ⟨rfl, rfl⟩
theorem takex_nil (g : Nat) (w : World) (h0 : w.cell? ⟨g, 0, none⟩ = some (.slice none 0 0)) (h1 : w.cell? ⟨g, 1, none⟩ = some (.bool false))
    (hf : w.frozen? ⟨g, 0, none⟩ = false) :
    Calls Try.prog 26 #[.pointer (some ⟨g, 0, none⟩), .int .i64 0] w fun e w' => e = .returned (.slice none 0 0) ∧ w.setCell ⟨g, 0, none⟩ (.slice none 0 0) = w' := by
  go_enter Try.func26, Try.ntmps26
  go_wp2
  go_ret
  exact ⟨rfl, rfl⟩
theorem takex_some (g b o l cap n : Nat) (hn : n ≤ l) (hl : l ≤ cap) (hc : cap ≤ 9223372036854775807) (w : World) (h0 : w.cell? ⟨g, 0, none⟩ = some (.slice (some ⟨b, o, none⟩) l cap)) (h1 : w.cell? ⟨g, 1, none⟩ = some (.bool false))
    (hf : w.frozen? ⟨g, 0, none⟩ = false) :
    Calls Try.prog 26 #[.pointer (some ⟨g, 0, none⟩), .int .i64 n] w fun e w' => e = .returned (.slice (some ⟨b, o, none⟩) n cap) ∧ w.setCell ⟨g, 0, none⟩ (.slice (some ⟨b, if cap = n then o else o + n, none⟩) (l - n) (cap - n)) = w' := by
  by_cases he : cap = n
  · subst he
    go_enter Try.func26, Try.ntmps26
    go_wp2
    go_ret
    exact ⟨rfl, rfl⟩
  · go_enter Try.func26, Try.ntmps26
    go_wp2
    go_ret
    exact ⟨rfl, rfl⟩

def TakeX (w : World) (g : Nat) (xs : List Int) (s : Bool) (n : Int) (e : Ending) (w' : World) : Prop :=
  ∃ v, e = .returned v ∧ Sees w' v (got xs s n) ∧ RX w' g (rst xs s n) (shrt xs.length s n) ∧ w.grownBy w' (some g)

theorem take_rx (g : Nat) (xs : List Int) (s : Bool) (n : Int) (w : World) (h : RX w g xs s) : Calls Try.prog 26 #[.pointer (some ⟨g, 0, none⟩), .int .i64 n] w (TakeX w g xs s n) := by
  obtain ⟨hb, sv, hg, hsv⟩ := h
  have c0 : w.cell? ⟨g, 0, none⟩ = some sv := by rw [cell_of_row w g 0 _ _ _ hg]; rfl
  have c1 : w.cell? ⟨g, 1, none⟩ = some (.bool s) := by rw [cell_of_row w g 1 _ _ _ hg]; rfl
  have keep : ∀ s', RX (w.setRow g (#[sv, .bool s].setIfInBounds 1 (.bool s'))) g xs s' := by
    intro s'
    refine ⟨hb, sv, setRow_heap w g _ _ _ _ hg, ?_⟩
    rcases hsv with h | ⟨b, o, cap, h1, hne, hl, hm, hc⟩
    · exact .inl h
    · exact .inr ⟨b, o, cap, h1, hne, hl, hm, fun i hi => by rw [cell_setRow_other _ _ _ _ hne]; exact hc i hi⟩
  have form : ∃ x cap, sv = .slice x xs.length cap := by
    rcases hsv with ⟨rfl, rfl⟩ | ⟨b, o, cap, rfl, _⟩
    · exact ⟨_, _, rfl⟩
    · exact ⟨_, _, rfl⟩
  obtain ⟨x, cap0, hx⟩ := form
  cases s with
  | true =>
    refine (takex_true g n w c1 (frozen_block hg 1)).mono ?_
    rintro e w' ⟨rfl, rfl⟩
    have e1 : got xs true n = [] := by simp [got, shrt]
    have e2 : rst xs true n = xs := by simp [rst, shrt]
    have e3 : shrt xs.length true n = true := by simp [shrt]
    rw [setCell_eq_setRow w g 1 _ _ _ _ hg]
    exact ⟨_, rfl, by rw [e1]; exact sees_nil _, by rw [e2, e3]; exact keep true, grownBy_setRow _ _ _⟩
  | false =>
    by_cases hn : n < 0 ∨ (xs.length : Int) < n
    · rw [hx] at c0
      refine (takex_less g x xs.length cap0 n hn w c0 c1 (frozen_block hg 1)).mono ?_
      rintro e w' ⟨rfl, rfl⟩
      have e3 : shrt xs.length false n = true := by simp [shrt]; exact hn
      have e1 : got xs false n = [] := by simp [got, e3]
      have e2 : rst xs false n = xs := by simp [rst, e3]
      rw [setCell_eq_setRow w g 1 _ _ _ _ hg]
      exact ⟨_, rfl, by rw [e1]; exact sees_nil _, by rw [e2, e3]; exact keep true, grownBy_setRow _ _ _⟩
    · obtain ⟨q, rfl⟩ := Int.eq_ofNat_of_zero_le (show 0 ≤ n by omega)
      have hq : q ≤ xs.length := by omega
      have e3 : shrt xs.length false (q : Int) = false := by simp [shrt]; omega
      have e1 : got xs false (q : Int) = xs.take q := by simp [got, e3]
      have e2 : rst xs false (q : Int) = xs.drop q := by simp [rst, e3]
      rcases hsv with ⟨rfl, rfl⟩ | ⟨b, o, cap, rfl, hne, hl, hm, hc⟩
      · obtain rfl : q = 0 := by simpa using hq
        refine (takex_nil g w c0 c1 (frozen_block hg 0)).mono ?_
        rintro e w' ⟨rfl, rfl⟩
        rw [setCell_eq_setRow w g 0 _ _ _ _ hg]
        refine ⟨_, rfl, by rw [e1]; exact sees_nil _, ?_, grownBy_setRow _ _ _⟩
        rw [e2, e3]
        exact ⟨hb, _, setRow_heap w g _ _ _ _ hg, .inl ⟨rfl, rfl⟩⟩
      · have hm' := hm
        unfold maxLen at hm'
        refine (takex_some g b o xs.length cap q hq hl (by omega) w c0 c1 (frozen_block hg 0)).mono ?_
        rintro e w' ⟨rfl, rfl⟩
        rw [setCell_eq_setRow w g 0 _ _ _ _ hg]
        have hsees : Sees (w.setRow g (#[Value.slice (some ⟨b, o, none⟩) xs.length cap, .bool false].setIfInBounds 0 (.slice (some ⟨b, if cap = q then o else o + q, none⟩) (xs.length - q) (cap - q)))) (.slice (some ⟨b, o, none⟩) q cap) (xs.take q) := by
          refine ⟨hb.take q, ?_⟩
          by_cases h0 : xs.take q = []
          · have : q = 0 := by
              have h2 := congrArg List.length h0
              rw [List.length_take, Nat.min_eq_left hq] at h2
              exact h2
            subst this
            exact .inr (.inl ⟨_, _, rfl, rfl, hm⟩)
          · refine .inr (.inr ⟨b, o, cap, by simp [Nat.min_eq_left hq], h0, by simp; omega, hm, fun i hi => ?_⟩)
            have hi' : i < q := by simp at hi; omega
            rw [cell_setRow_other _ _ _ _ hne, hc i (by omega)]
            simp [nth, List.getD, List.getElem?_take_of_lt hi']
        refine ⟨_, rfl, by rw [e1]; exact hsees, ?_, grownBy_setRow _ _ _⟩
        rw [e2, e3]
        refine ⟨hb.drop q, _, setRow_heap w g _ _ _ _ hg, .inr ⟨b, _, cap - q, by rw [List.length_drop], hne, by simp; omega, by unfold maxLen; omega, fun i hi => ?_⟩⟩
        have hi' : q + i < xs.length := by simp at hi; omega
        rw [if_neg (by omega), cell_setRow_other _ _ _ _ hne, Nat.add_assoc, hc (q + i) hi']
        simp [nth, List.getD, List.getElem?_drop]

/-- End of the document's reader. -/
theorem endx (g : Nat) (xs : List Int) (s : Bool) (w : World) (h : RX w g xs s) : Calls Try.prog 33 #[.pointer (some ⟨g, 0, none⟩)] w fun e w' => e = .returned (.int .i64 (endE xs s)) ∧ w = w' := by
  obtain ⟨hb, sv, hg, hsv⟩ := h
  have c0 : w.cell? ⟨g, 0, none⟩ = some sv := by rw [cell_of_row w g 0 _ _ _ hg]; rfl
  have c1 : w.cell? ⟨g, 1, none⟩ = some (.bool s) := by rw [cell_of_row w g 1 _ _ _ hg]; rfl
  obtain ⟨x, cap0, rfl, hm⟩ : ∃ x cap, sv = .slice x xs.length cap ∧ xs.length ≤ 9223372036854775807 := by
    rcases hsv with ⟨rfl, rfl⟩ | ⟨b, o, cap, rfl, _, hl, hm, _⟩
    · exact ⟨_, _, rfl, by simp⟩
    · unfold maxLen at hm
      exact ⟨_, _, rfl, by omega⟩
  clear hg hb hsv
  cases s with
  | true =>
    go_enter Try.func33, Try.ntmps33
    go_wp2
    go_ret
    exact ⟨by simp [endE], rfl⟩
  | false =>
    by_cases h0 : xs = []
    · subst h0
      simp only [List.length_nil] at c0
      go_enter Try.func33, Try.ntmps33
      go_wp2
      go_ret
      exact ⟨by simp [endE], rfl⟩
    · have hp : 0 < xs.length := List.length_pos_iff.2 h0
      have e0 : endE xs false = 2 := by simp [endE, h0]
      rw [e0]
      clear e0 h0
      go_enter Try.func33, Try.ntmps33
      go_wp2
      go_ret
      exact ⟨rfl, rfl⟩

theorem got_len (xs : List Int) (s : Bool) (n : Int) : (got xs s n).length ≤ xs.length := by
  unfold got
  split
  · simp
  · rw [List.length_take]; omega
theorem got_byt {xs : List Int} (h : Byt xs) (s : Bool) (n : Int) : Byt (got xs s n) := by
  unfold got
  split
  · exact fun _ h => by simp at h
  · exact h.take _

/-- Bytes: a copy of the next ones. -/
def BytesP (w : World) (g : Nat) (xs : List Int) (s : Bool) (n : Int) (e : Ending) (w' : World) : Prop :=
  ∃ q, e = .returned (.slice (some ⟨q, 0, none⟩) (got xs s n).length (got xs s n).length) ∧ Sees w' (.slice (some ⟨q, 0, none⟩) (got xs s n).length (got xs s n).length) (got xs s n) ∧ w.heap.size ≤ q ∧
    RD w' g (rst xs s n) (shrt xs.length s n) ∧ w.grownBy w' (some g)

theorem RD.below {w w' : World} {g : Nat} {xs : List Int} {s : Bool} (h : RD w g xs s) (hb : Below w.heap.size w w') : RD w' g xs s := by
  obtain ⟨h1, b, o, cap, hg, hne, hl, hm, hc⟩ := h
  exact ⟨h1, b, o, cap, (hb.block g (Array.getElem?_eq_some_iff.1 hg).1).trans hg, hne, hl, hm, fun i hi => (hb.cell (World.block_lt_of_cell? w _ (hc i hi))).trans (hc i hi)⟩
theorem RD.lt {w : World} {g : Nat} {xs : List Int} {s : Bool} (h : RD w g xs s) : g < w.heap.size := by
  obtain ⟨_, _, _, _, hg, _⟩ := h
  exact (Array.getElem?_eq_some_iff.1 hg).1
theorem grownBy_trans {a b c : World} {row : Option Nat} (h : a.grownBy b row) (k : b.grownBy c row) : a.grownBy c row :=
  ⟨k.os.trans h.os, k.tape.trans h.tape, k.output.trans h.output, Nat.le_trans h.size k.size, fun i hi hr => (k.block i (Nat.lt_of_lt_of_le hi h.size) hr).trans (h.block i hi hr)⟩

theorem bytes_rd (g : Nat) (xs : List Int) (s : Bool) (n : Int) (hl : xs.length ≤ 2000) (w : World) (h : RD w g xs s) : Calls Try.prog 31 #[.pointer (some ⟨g, 0, none⟩), .int .i64 n] w (BytesP w g xs s n) := by
  have H := Lib.hid h
  clear h
  go_enter Try.func31, Try.ntmps31
  go_wp2_with fail
  refine (take_rd g xs s n _ H.out).mono ?_
  rintro e w1 ⟨v, rfl, hs, _, hr, hg⟩
  obtain ⟨x, c, rfl, h63⟩ := hs.form
  have HS := Lib.hid hs
  have HR := Lib.hid hr
  have HG := Lib.hid hg
  have hgl := got_len xs s n
  clear hs hr hg
  go_wp2_with fail
  refine (filled _ (got xs s n) (got xs s n).length (Nat.le_refl _) (by omega) _ HS.out).mono ?_
  rintro e w2 ⟨rfl, hw⟩
  have HW := Lib.hid hw
  clear hw
  go_wp2_with fail
  go_ret
  have hb : Below w1.heap.size w1 w2 := by rw [← HW.out]; exact (Below.refl _ _).alloc (Nat.le_refl _) _
  refine ⟨w1.heap.size, rfl, ?_, HG.out.size, RD.below HR.out hb, ?_⟩
  · rw [← HW.out, Nat.sub_self]
    have := sees_alloc w1 (got xs s n) HS.out.1 (got xs s n).length (got xs s n).length rfl (Nat.le_refl _) (by unfold maxLen; omega) (List.replicate 0 0)
    exact this
  · rw [← HW.out]
    exact grownBy_trans HG.out (World.grownBy_alloc _ _ _)

theorem rest_rd (g : Nat) (xs : List Int) (s : Bool) (hl : xs.length ≤ 2000) (w : World) (h : RD w g xs s) : Calls Try.prog 30 #[.pointer (some ⟨g, 0, none⟩)] w (BytesP w g xs s xs.length) := by
  have H := Lib.hid h
  obtain ⟨_, b, o, cap, hg, _, _, _, _⟩ := h
  have c0 : w.cell? ⟨g, 0, none⟩ = some (.slice (some ⟨b, o, none⟩) xs.length cap) := by rw [cell_of_row w g 0 _ _ _ hg]; rfl
  clear hg
  go_enter Try.func30, Try.ntmps30
  go_wp2_with fail
  refine (bytes_rd g xs s xs.length hl _ H.out).mono ?_
  rintro e w1 ⟨q, rfl, h1, h2, h3, h4⟩
  have H1 := Lib.hid h1
  have H3 := Lib.hid h3
  have H4 := Lib.hid h4
  clear h1 h3 h4
  go_wp2_with fail
  go_ret
  exact ⟨q, rfl, H1.out, h2, H3.out, H4.out⟩

/-! ### A reader that is nil -/
theorem u64_nil (w : World) : Calls Try.prog 29 #[.pointer none] w fun e w' => e = .returned (.int .u64 0) ∧ w = w' := by
  have N : ∀ w, Calls Try.prog 42 #[.pointer none] w fun e w' => e = .returned (.int .u64 0) ∧ w = w' := by
    intro w
    go_enter Try.func42, Try.ntmps42
    go_wp2_with (first
      | (go_at_call 37; refine (width64 _).mono ?_; rintro e w' ⟨rfl, rfl⟩)
      | (go_at_call 43; refine (take_nil _ _).mono ?_; rintro e w1 ⟨rfl, rfl⟩)
      | (go_at_call 12; refine (get64 _ [] 0 (by decide) _ (sees_nil _)).mono ?_; (rw [show getV [] 0 8 = 0 from by decide]); rintro e w' ⟨rfl, rfl⟩))
    go_ret
    exact ⟨rfl, rfl⟩
  have HN := Lib.hid N
  clear N
  go_enter Try.func29, Try.ntmps29
  go_wp2_with (go_at_call 42; refine (HN.out _).mono ?_; rintro e w1 ⟨rfl, rfl⟩)
  go_ret
  exact ⟨rfl, rfl⟩
theorem rest_nil (w : World) : Calls Try.prog 30 #[.pointer none] w fun e w' => e = .returned (.slice none 0 0) ∧ w = w' := by
  go_enter Try.func30, Try.ntmps30
  go_wp2
  go_ret
  exact ⟨rfl, rfl⟩
theorem bytes_nil (n : Int) (w : World) : Calls Try.prog 31 #[.pointer none, .int .i64 n] w fun e w' => e = .returned (.slice (some ⟨w.heap.size, 0, none⟩) 0 0) ∧ Below w.heap.size w w' := by
  go_enter Try.func31, Try.ntmps31
  go_wp2_with fail
  refine (take_nil n _).mono ?_
  rintro e w1 ⟨rfl, rfl⟩
  go_wp2_with fail
  refine (filled _ [] 0 (by simp) (by decide) _ (sees_nil _)).mono ?_
  rintro e w2 ⟨rfl, hw⟩
  have HW := Lib.hid hw
  clear hw
  go_wp2_with fail
  go_ret
  exact ⟨rfl, by rw [← HW.out]; exact (Below.refl _ _).alloc (Nat.le_refl _) _⟩
end Go.Proofs.Ytmjbfjkbfnpnlaa.octetReads
