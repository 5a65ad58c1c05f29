/-
  Words and lemmas for the statement OctetReads: slices of ints; two readers side by side. Condition: none.
-/
import Derived.Test.YtmjbfjkbfnpnlaaReadsA
import Derived.Test.YtmjbfjkbfnpnlaaL
namespace Go.Proofs.Ytmjbfjkbfnpnlaa.octetReads
open Go.ChangeShapes Go.WideShapes Go.ChangeAt Go.RowKit
attribute [local go_sem ↓] Go.wp_at_zero Go.wp_at_succ

/-- The slice v reads, in w, as the ints ls. -/
def SeesI (w : World) (v : Value) (ls : List Int) : Prop :=
  (∀ x ∈ ls, -9223372036854775808 ≤ x ∧ x ≤ 9223372036854775807) ∧ ((v = .slice none 0 0 ∧ ls = []) ∨ (∃ a cap, v = .slice (some a) 0 cap ∧ ls = [] ∧ cap ≤ maxLen) ∨
    ∃ b o cap, v = .slice (some ⟨b, o, none⟩) ls.length cap ∧ ls ≠ [] ∧ ls.length ≤ cap ∧ cap ≤ maxLen ∧ ∀ i, i < ls.length → w.cell? ⟨b, o + i, none⟩ = some (.int .i64 (nth ls i)))

theorem cells3 : Try.prog.cellsOf 3 = 1 := by kernel_rfl

theorem open_int64s {H : Type} {enc : TypeId × Value → H} {w : World} {r : Reach} {b0 base : Nat} {v : Value} {d : DataW H} {ps : List MemPlace}
    (hval : Value.okWide Try.prog w r b0 47 v) (hd : DataW.Trod enc Try.prog w base (fun _ => true) true 47 v d ps) : ∃ ls, SeesI w v ls := by
  obtain ⟨fuel, hf⟩ := hd
  have hv : ∀ c : Value, v.cells.toList = [c] → (∃ x l k, c = .slice x l k) → v = c := by
    intro c hc ⟨x, l, k, hx⟩
    obtain ⟨x', l', k', rfl⟩ := okWide_slice Try.underlying47 hval
    simpa [Value.cells] using hc
  rcases open_ints Try.underlying47 Try.underlying3 cells3 hf with ⟨hc, _⟩ | ⟨a, len, cap, zs, hc, _, hl, hm, hlen, _, hcell, hwf⟩
  · exact ⟨[], by rw [hv _ hc ⟨_, _, _, rfl⟩]; exact ⟨fun _ h => by simp at h, .inl ⟨rfl, rfl⟩⟩⟩
  · have hvv := hv _ hc ⟨_, _, _, rfl⟩
    subst hvv
    rw [if_pos rfl] at hlen
    refine ⟨zs.take len, fun x hx => bounds_i64 (hwf x (List.mem_of_mem_take hx)), ?_⟩
    by_cases h0 : len = 0
    · subst h0
      exact .inr (.inl ⟨a, cap, rfl, by simp, hm⟩)
    · obtain ⟨b, o, rfl, h2⟩ := ints_at hcell (by omega)
      have hlz : (zs.take len).length = len := by rw [List.length_take]; omega
      refine .inr (.inr ⟨b, o, cap, by rw [hlz], fun e => h0 (by rw [← hlz, e]; rfl), by omega, hm, fun i hi => ?_⟩)
      rw [hlz] at hi
      rw [h2 i (by omega)]
      simp [nth, List.getD, List.getElem?_take_of_lt hi]

theorem SeesI.form {w : World} {v : Value} {xs : List Int} (h : SeesI w v xs) : ∃ x cap, v = .slice x xs.length cap ∧ xs.length ≤ 9223372036854775807 := by
  obtain ⟨h1, ⟨rfl, rfl⟩ | ⟨a, cap, rfl, rfl, _⟩ | ⟨b, o, cap, rfl, h3, h4, h5, h6⟩⟩ := h
  · exact ⟨_, _, rfl, by simp⟩
  · exact ⟨_, _, rfl, by simp⟩
  · unfold maxLen at h5
    exact ⟨_, _, rfl, by omega⟩
theorem SeesI.at {w W : World} {x : Option Addr} {cap k : Nat} {xs : List Int} (h : SeesI w (.slice x xs.length cap) xs) (hb : Below w.heap.size w W) (hk : k < xs.length) :
    ∃ b o, x = some ⟨b, o, none⟩ ∧ b < w.heap.size ∧ W.cell? ⟨b, o + k, none⟩ = some (.int .i64 (nth xs k)) ∧ -9223372036854775808 ≤ nth xs k ∧ nth xs k ≤ 9223372036854775807 := by
  have hr : -9223372036854775808 ≤ nth xs k ∧ nth xs k ≤ 9223372036854775807 := by
    have e : nth xs k = xs[k] := by simp [nth, List.getD, hk]
    rw [e]; exact h.1 _ (List.getElem_mem hk)
  obtain ⟨h1, ⟨_, rfl⟩ | ⟨_, _, _, rfl, _⟩ | ⟨b, o, c, hv, h3, h4, h5, h6⟩⟩ := h
  · simp at hk
  · simp at hk
  · simp only [Value.slice.injEq] at hv
    have hlt := World.block_lt_of_cell? w _ (h6 k hk)
    exact ⟨b, o, hv.1, hlt, (hb.cell hlt).trans (h6 k hk), hr.1, hr.2⟩

/-! ### What is done to one reader leaves the other -/
theorem rd_keep {w w' : World} {g gx : Nat} {xs : List Int} {s s' : Bool} {sv : Value} (h : RD w g xs s) (hx : w.heap[gx]? = some (.cells #[sv, .bool s'] 53 (0, 0))) (hsv : ∀ k z, sv ≠ .int k z) (hg : w.grownBy w' (some gx)) : RD w' g xs s := by
  obtain ⟨hb, b, o, cap, hh, hne, hl, hm, hc⟩ := h
  have h1 : g ≠ gx := by
    rintro rfl
    rw [hh] at hx
    simp at hx
  refine ⟨hb, b, o, cap, (hg.block g (Array.getElem?_eq_some_iff.1 hh).1 (fun e => h1 (by injection e))).trans hh, hne, hl, hm, fun i hi => ?_⟩
  refine hg.cell (hc i hi) (fun e => ?_)
  have e' : b = gx := by injection e
  subst e'
  have := hc i hi
  rw [cell_of_row w b _ _ _ _ hx] at this
  match hj : o + i with
  | 0 => rw [hj] at this; simp at this; exact hsv _ _ this
  | 1 => rw [hj] at this; simp at this
  | n + 2 => rw [hj] at this; simp at this
theorem rx_keep {w w' : World} {g gr : Nat} {xs : List Int} {s s' : Bool} {sv : Value} (h : RX w g xs s) (hx : w.heap[gr]? = some (.cells #[sv, .bool s'] 70 (0, 0))) (hsv : ∀ k z, sv ≠ .int k z) (hg : w.grownBy w' (some gr)) : RX w' g xs s := by
  obtain ⟨hb, v, hh, hv⟩ := h
  have h1 : g ≠ gr := by
    rintro rfl
    rw [hh] at hx
    simp at hx
  refine ⟨hb, v, (hg.block g (Array.getElem?_eq_some_iff.1 hh).1 (fun e => h1 (by injection e))).trans hh, ?_⟩
  rcases hv with h | ⟨b, o, cap, e0, hne, hl, hm, hc⟩
  · exact .inl h
  · refine .inr ⟨b, o, cap, e0, hne, hl, hm, fun i hi => ?_⟩
    refine hg.cell (hc i hi) (fun e => ?_)
    have e' : b = gr := by injection e
    subst e'
    have := hc i hi
    rw [cell_of_row w b _ _ _ _ hx] at this
    match hj : o + i with
    | 0 => rw [hj] at this; simp at this; exact hsv _ _ this
    | 1 => rw [hj] at this; simp at this
    | n + 2 => rw [hj] at this; simp at this

/-- Both readers, with the same left. -/
def Two (w : World) (gr gx : Nat) (xs : List Int) (s : Bool) : Prop := RD w gr xs s ∧ RX w gx xs s
theorem Two.drew {w : World} {gr gx : Nat} {xs : List Int} {s : Bool} (h : Two w gr gx xs s) : Two w.drew gr gx xs s := h
theorem two_first {w w' : World} {gr gx : Nat} {xs : List Int} {s : Bool} (h : Two w gr gx xs s) (hg : w.grownBy w' (some gr)) : RX w' gx xs s := by
  obtain ⟨_, b, o, cap, hh, _⟩ := h.1
  exact rx_keep h.2 hh (fun _ _ e => by cases e) hg
theorem two_next {w w' : World} {gr gx : Nat} {xs ys : List Int} {s t : Bool} (h : RD w gr ys t) (hx : RX w gx xs s) (hx' : RX w' gx ys t) (hg : w.grownBy w' (some gx)) : Two w' gr gx ys t := by
  obtain ⟨_, sv, hh, hv⟩ := hx
  refine ⟨rd_keep h hh (fun k z e => ?_) hg, hx'⟩
  rcases hv with ⟨h, _⟩ | ⟨b, o, cap, h, _⟩ <;> rw [h] at e <;> cases e

theorem getV_got (xs : List Int) (s : Bool) (n : Nat) : getV (got xs s n) 0 n = numI (got xs s n) := by
  by_cases h : shrt xs.length s n = true
  · have e : got xs s n = [] := by simp [got, h]
    rw [e]
    unfold getV
    rw [if_neg (by omega)]
    split
    · rfl
    · simp
  · have e : got xs s n = xs.take n := by simp [got, h]
    have hl : n ≤ xs.length := by simp [shrt] at h; omega
    have hlen : (xs.take n).length = n := by simp [hl]
    rw [e]
    unfold getV
    rw [if_neg (by omega), if_neg (by rw [hlen]; omega)]
    simp [List.take_take]
theorem got_le (xs : List Int) (s : Bool) (n : Nat) : (got xs s n).length ≤ n := by
  unfold got
  split
  · simp
  · rw [List.length_take, Int.toNat_natCast]; omega
theorem numI_got (xs : List Int) (s : Bool) (n : Nat) (hb : Byt xs) : 0 ≤ numI (got xs s n) ∧ numI (got xs s n) < 256 ^ n := by
  have h := numI_bd _ (got xs s n) rfl (got_byt hb s n)
  have h2 : (256 : Int) ^ (got xs s n).length ≤ 256 ^ n := by
    have := Nat.pow_le_pow_right (n := 256) (by omega) (got_le xs s n)
    exact Int.ofNat_le.2 this |> fun h => by simpa using h
  omega
theorem rst_len (xs : List Int) (s : Bool) (n : Int) : (rst xs s n).length ≤ xs.length := by
  unfold rst
  split
  · omega
  · rw [List.length_drop]; omega
theorem num8 (gr gx : Nat) (xs : List Int) (s : Bool) (w : World) (h : Two w gr gx xs s) : Calls Try.prog 24 #[.pointer (some ⟨gr, 0, none⟩)] w fun e w' =>
    e = .returned (.int .u8 (numI (got xs s 1))) ∧ RD w' gr (rst xs s 1) (shrt xs.length s 1) ∧ RX w' gx xs s ∧ w.grownBy w' (some gr) := by
  refine (u8 gr xs s w h.1).mono ?_
  rintro e w' ⟨rfl, hr, hg⟩
  exact ⟨by rw [show getV (got xs s 1) 0 1 = numI (got xs s 1) from getV_got xs s 1], hr, two_first h hg, hg⟩
theorem bd8 (xs : List Int) (s : Bool) (hb : Byt xs) : 0 ≤ numI (got xs s 1) ∧ numI (got xs s 1) ≤ 255 := by
  have h : 0 ≤ numI (got xs s (1 : Nat)) ∧ numI (got xs s (1 : Nat)) < 256 ^ 1 := numI_got xs s 1 hb
  exact ⟨h.1, by have := h.2; exact Int.le_of_lt_add_one (by simpa using this)⟩
theorem num16 (gr gx : Nat) (xs : List Int) (s : Bool) (w : World) (h : Two w gr gx xs s) : Calls Try.prog 27 #[.pointer (some ⟨gr, 0, none⟩)] w fun e w' =>
    e = .returned (.int .u16 (numI (got xs s 2))) ∧ RD w' gr (rst xs s 2) (shrt xs.length s 2) ∧ RX w' gx xs s ∧ w.grownBy w' (some gr) := by
  refine (u16 gr xs s w h.1).mono ?_
  rintro e w' ⟨rfl, hr, hg⟩
  exact ⟨by rw [show getV (got xs s 2) 0 2 = numI (got xs s 2) from getV_got xs s 2], hr, two_first h hg, hg⟩
theorem bd16 (xs : List Int) (s : Bool) (hb : Byt xs) : 0 ≤ numI (got xs s 2) ∧ numI (got xs s 2) ≤ 65535 := by
  have h : 0 ≤ numI (got xs s (2 : Nat)) ∧ numI (got xs s (2 : Nat)) < 256 ^ 2 := numI_got xs s 2 hb
  exact ⟨h.1, by have := h.2; exact Int.le_of_lt_add_one (by simpa using this)⟩
theorem num32 (gr gx : Nat) (xs : List Int) (s : Bool) (w : World) (h : Two w gr gx xs s) : Calls Try.prog 28 #[.pointer (some ⟨gr, 0, none⟩)] w fun e w' =>
    e = .returned (.int .u32 (numI (got xs s 4))) ∧ RD w' gr (rst xs s 4) (shrt xs.length s 4) ∧ RX w' gx xs s ∧ w.grownBy w' (some gr) := by
  refine (u32 gr xs s w h.1).mono ?_
  rintro e w' ⟨rfl, hr, hg⟩
  exact ⟨by rw [show getV (got xs s 4) 0 4 = numI (got xs s 4) from getV_got xs s 4], hr, two_first h hg, hg⟩
theorem bd32 (xs : List Int) (s : Bool) (hb : Byt xs) : 0 ≤ numI (got xs s 4) ∧ numI (got xs s 4) ≤ 4294967295 := by
  have h : 0 ≤ numI (got xs s (4 : Nat)) ∧ numI (got xs s (4 : Nat)) < 256 ^ 4 := numI_got xs s 4 hb
  exact ⟨h.1, by have := h.2; exact Int.le_of_lt_add_one (by simpa using this)⟩
theorem num64 (gr gx : Nat) (xs : List Int) (s : Bool) (w : World) (h : Two w gr gx xs s) : Calls Try.prog 29 #[.pointer (some ⟨gr, 0, none⟩)] w fun e w' =>
    e = .returned (.int .u64 (numI (got xs s 8))) ∧ RD w' gr (rst xs s 8) (shrt xs.length s 8) ∧ RX w' gx xs s ∧ w.grownBy w' (some gr) := by
  refine (u64 gr xs s w h.1).mono ?_
  rintro e w' ⟨rfl, hr, hg⟩
  exact ⟨by rw [show getV (got xs s 8) 0 8 = numI (got xs s 8) from getV_got xs s 8], hr, two_first h hg, hg⟩
theorem bd64 (xs : List Int) (s : Bool) (hb : Byt xs) : 0 ≤ numI (got xs s 8) ∧ numI (got xs s 8) ≤ 18446744073709551615 := by
  have h : 0 ≤ numI (got xs s (8 : Nat)) ∧ numI (got xs s (8 : Nat)) < 256 ^ 8 := numI_got xs s 8 hb
  exact ⟨h.1, by have := h.2; exact Int.le_of_lt_add_one (by simpa using this)⟩
end Go.Proofs.Ytmjbfjkbfnpnlaa.octetReads
