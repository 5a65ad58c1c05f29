/-
  Contracts of the functions that the statements of package octet go through: the reader. Condition: the reader is one that Read made, or nil.
-/
import Derived.Test.YtabopcfhonkecaaC
import Derived.Test.YtabopcfhonkecaaD
namespace Go.Proofs.Ytabopcfhonkecaa
open Go.RowKit

theorem take_nil (n : Int) (w : World) : Calls Try.prog 41 #[.pointer none, .int .i64 n] w fun e w' => e = .returned (.slice none 0 0) ∧ w = w' := by
  go_enter Try.func41, Try.ntmps41
  go_wp2
  go_ret
  exact ⟨rfl, rfl⟩
theorem take_short (g : Nat) (n : Int) (w : World) (h1 : w.cell? ⟨g, 1, none⟩ = some (.bool true)) :
    Calls Try.prog 41 #[.pointer (some ⟨g, 0, none⟩), .int .i64 n] w fun e w' => e = .returned (.slice none 0 0) ∧ w = w' := by
  go_enter Try.func41, Try.ntmps41
  go_wp2
  go_ret
  exact ⟨rfl, rfl⟩
theorem take_less (g b o l cap : Nat) (n : Int) (hn : n < 0 ∨ (l : Int) < n) (w : World) (h0 : w.cell? ⟨g, 0, none⟩ = some (.slice (some ⟨b, o, none⟩) l cap)) (h1 : w.cell? ⟨g, 1, none⟩ = some (.bool false))
    (hf : w.frozen? ⟨g, 1, none⟩ = false) :
    Calls Try.prog 41 #[.pointer (some ⟨g, 0, none⟩), .int .i64 n] w fun e w' => e = .returned (.slice none 0 0) ∧ w.setCell ⟨g, 1, none⟩ (.bool true) = w' := by
  rcases hn with hn | hn
  · go_enter Try.func41, Try.ntmps41
    go_wp2
    go_ret
    exact ⟨rfl, rfl⟩
  · have h3 : 0 ≤ n := by omega
    go_enter Try.func41, Try.ntmps41
    go_wp2
    go_ret
    exact ⟨rfl, rfl⟩
theorem take_some (g b o l cap n : Nat) (hn : n ≤ l) (hl : l ≤ cap) (hc : cap ≤ 9223372036854775807) (w : World) (h0 : w.cell? ⟨g, 0, none⟩ = some (.slice (some ⟨b, o, none⟩) l cap)) (h1 : w.cell? ⟨g, 1, none⟩ = some (.bool false))
    (hf : w.frozen? ⟨g, 0, none⟩ = false) :
    Calls Try.prog 41 #[.pointer (some ⟨g, 0, none⟩), .int .i64 n] w fun e w' => e = .returned (.slice (some ⟨b, o, none⟩) n cap) ∧ w.setCell ⟨g, 0, none⟩ (.slice (some ⟨b, if cap = n then o else o + n, none⟩) (l - n) (cap - n)) = w' := by
  by_cases he : cap = n
  · subst he
    go_enter Try.func41, Try.ntmps41
    go_wp2
    go_ret
    exact ⟨rfl, rfl⟩
  · go_enter Try.func41, Try.ntmps41
    go_wp2
    go_ret
    exact ⟨rfl, rfl⟩

/-- Block g is a reader: what is left, and whether there were too few. -/
def RD (w : World) (g : Nat) (xs : List Int) (s : Bool) : Prop :=
  Byt xs ∧ ∃ b o cap, w.heap[g]? = some (.cells #[.slice (some ⟨b, o, none⟩) xs.length cap, .bool s] 72 (0, 0)) ∧ b ≠ g ∧ xs.length ≤ cap ∧ cap ≤ maxLen ∧
    ∀ i, i < xs.length → w.cell? ⟨b, o + i, none⟩ = some (.int .u8 (nth xs i))

/-- Are there too few? What comes, what is left. -/
def shrt (l : Nat) (s : Bool) (n : Int) : Bool := s || decide (n < 0) || decide ((l : Int) < n)
def got (xs : List Int) (s : Bool) (n : Int) : List Int := if shrt xs.length s n = true then [] else xs.take n.toNat
def rst (xs : List Int) (s : Bool) (n : Int) : List Int := if shrt xs.length s n = true then xs else xs.drop n.toNat

def TakeP (w : World) (g : Nat) (xs : List Int) (s : Bool) (n : Int) (e : Ending) (w' : World) : Prop :=
  ∃ v, e = .returned v ∧ Sees w' v (got xs s n) ∧ v.ownBlock ≠ some g ∧ RD w' g (rst xs s n) (shrt xs.length s n) ∧ w.grownBy w' (some g)

theorem grownBy_refl (w : World) (row : Option Nat) : w.grownBy w row := ⟨rfl, rfl, rfl, Nat.le_refl _, fun _ _ _ => rfl⟩
theorem grownBy_setRow (w : World) (g : Nat) (cs : Array Value) : w.grownBy (w.setRow g cs) (some g) :=
  ⟨rfl, rfl, rfl, by simp, fun k _ hk => setRow_other w g k cs (by intro e; exact hk (by rw [e]))⟩
theorem sees_nil (w : World) : Sees w (.slice none 0 0) [] := ⟨fun _ h => by simp at h, .inl ⟨rfl, rfl⟩⟩
theorem frozen_block {w : World} {g : Nat} {cs : Array Value} {t : TypeId} (hg : w.heap[g]? = some (.cells cs t (0, 0))) (i : Nat) : w.frozen? ⟨g, i, none⟩ = false := by simp [World.frozen?, hg]

theorem take_rd (g : Nat) (xs : List Int) (s : Bool) (n : Int) (w : World) (h : RD w g xs s) : Calls Try.prog 41 #[.pointer (some ⟨g, 0, none⟩), .int .i64 n] w (TakeP w g xs s n) := by
  obtain ⟨hb, b, o, cap, hg, hne, hl, hm, hc⟩ := h
  have c0 : w.cell? ⟨g, 0, none⟩ = some (.slice (some ⟨b, o, none⟩) xs.length cap) := by rw [cell_of_row w g 0 _ _ _ hg]; rfl
  have c1 : w.cell? ⟨g, 1, none⟩ = some (.bool s) := by rw [cell_of_row w g 1 _ _ _ hg]; rfl
  cases s with
  | true =>
    refine (take_short g n w c1).mono ?_
    rintro e w' ⟨rfl, rfl⟩
    have e1 : got xs true n = [] := by simp [got, shrt]
    have e2 : rst xs true n = xs := by simp [rst, shrt]
    have e3 : shrt xs.length true n = true := by simp [shrt]
    exact ⟨_, rfl, by rw [e1]; exact sees_nil _, by simp [Value.ownBlock], by rw [e2, e3]; exact ⟨hb, b, o, cap, hg, hne, hl, hm, hc⟩, grownBy_refl _ _⟩
  | false =>
    by_cases hn : n < 0 ∨ (xs.length : Int) < n
    · refine (take_less g b o xs.length cap n hn w c0 c1 (frozen_block hg 1)).mono ?_
      rintro e w' ⟨rfl, rfl⟩
      have e3 : shrt xs.length false n = true := by simp [shrt]; exact hn
      have e1 : got xs false n = [] := by simp [got, e3]
      have e2 : rst xs false n = xs := by simp [rst, e3]
      rw [setCell_eq_setRow w g 1 _ _ _ _ hg]
      refine ⟨_, rfl, by rw [e1]; exact sees_nil _, by simp [Value.ownBlock], ?_, grownBy_setRow _ _ _⟩
      rw [e2, e3]
      exact ⟨hb, b, o, cap, setRow_heap w g _ _ _ _ hg, hne, hl, hm, fun i hi => by rw [cell_setRow_other _ _ _ _ hne]; exact hc i hi⟩
    · obtain ⟨q, rfl⟩ := Int.eq_ofNat_of_zero_le (show 0 ≤ n by omega)
      have hq : q ≤ xs.length := by omega
      have e3 : shrt xs.length false (q : Int) = false := by simp [shrt]; omega
      have e1 : got xs false (q : Int) = xs.take q := by simp [got, e3]
      have e2 : rst xs false (q : Int) = xs.drop q := by simp [rst, e3]
      have hm' := hm
      unfold maxLen at hm'
      refine (take_some g b o xs.length cap q hq hl (by omega) w c0 c1 (frozen_block hg 0)).mono ?_
      rintro e w' ⟨rfl, rfl⟩
      rw [setCell_eq_setRow w g 0 _ _ _ _ hg]
      have hsees : Sees (w.setRow g (#[Value.slice (some ⟨b, o, none⟩) xs.length cap, .bool false].setIfInBounds 0 (.slice (some ⟨b, if cap = q then o else o + q, none⟩) (xs.length - q) (cap - q)))) (.slice (some ⟨b, o, none⟩) q cap) (xs.take q) := by
        refine ⟨hb.take q, ?_⟩
        by_cases h0 : xs.take q = []
        · have : q = 0 := by
            have h2 := congrArg List.length h0
            rw [List.length_take, Nat.min_eq_left hq] at h2
            exact h2
          subst this
          exact .inr (.inl ⟨_, _, rfl, rfl, hm⟩)
        · refine .inr (.inr ⟨b, o, cap, by simp [Nat.min_eq_left hq], h0, by simp; omega, hm, fun i hi => ?_⟩)
          have hi' : i < q := by simp at hi; omega
          rw [cell_setRow_other _ _ _ _ hne, hc i (by omega)]
          simp [nth, List.getD, List.getElem?_take_of_lt hi']
      refine ⟨_, rfl, by rw [e1]; exact hsees, by simp [Value.ownBlock]; exact hne, ?_, grownBy_setRow _ _ _⟩
      rw [e2, e3]
      refine ⟨hb.drop q, b, _, cap - q, by rw [List.length_drop]; exact setRow_heap w g _ _ _ _ hg, hne, by simp; omega, by unfold maxLen; omega, fun i hi => ?_⟩
      have hi' : q + i < xs.length := by simp at hi; omega
      rw [if_neg (by omega), cell_setRow_other _ _ _ _ hne, Nat.add_assoc, hc (q + i) hi']
      simp [nth, List.getD, List.getElem?_drop]

/-- Read: a reader of a copy. -/
theorem read_rd (v : Value) (xs : List Int) (hl : xs.length ≤ 140737488355328) (w : World) (h : Sees w v xs) :
    Calls Try.prog 24 #[v] w fun e w' => e = .returned (.pointer (some ⟨w.heap.size + 1, 0, none⟩)) ∧
      (w.alloc (.cells (bcells xs) 5)).alloc (.cells #[.slice (some ⟨w.heap.size, 0, none⟩) xs.length xs.length, .bool false] 72) = w' := by
  obtain ⟨x, cap, rfl, h63⟩ := h.form
  go_enter Try.func24, Try.ntmps24
  go_wp2_with (go_at_call 35; refine (filled _ xs xs.length (Nat.le_refl _) hl _ h).mono ?_; rintro e w' ⟨rfl, rfl⟩)
  go_ret
  exact ⟨rfl, rfl⟩

theorem rd_made (w : World) (xs : List Int) (hb : Byt xs) (hm : xs.length ≤ maxLen) :
    RD ((w.alloc (.cells (bcells xs) 5)).alloc (.cells #[.slice (some ⟨w.heap.size, 0, none⟩) xs.length xs.length, .bool false] 72)) (w.heap.size + 1) xs false := by
  refine ⟨hb, w.heap.size, 0, xs.length, ?_, by omega, Nat.le_refl _, hm, fun i hi => ?_⟩
  · have := heap_alloc_new (w.alloc (.cells (bcells xs) 5)) (.cells #[.slice (some ⟨w.heap.size, 0, none⟩) xs.length xs.length, .bool false] 72)
    simpa using this
  · obtain ⟨_, ⟨h1, _⟩ | ⟨a, c, h1, h2, _⟩ | ⟨b, o, c, h1, _, _, _, h2⟩⟩ := sees_alloc w xs hb xs.length xs.length rfl (Nat.le_refl _) hm []
    · simp at h1
    · subst h2; simp at hi
    · simp only [Value.slice.injEq, Option.some.injEq, Addr.mk.injEq] at h1
      obtain ⟨⟨rfl, rfl, _⟩, _, rfl⟩ := h1
      rw [List.append_nil] at h2
      exact World.Extends.cell_of ((World.Extends.refl _).alloc _) (h2 i hi)

def NumP8 (w : World) (g : Nat) (xs : List Int) (s : Bool) (e : Ending) (w' : World) : Prop :=
  e = .returned (.int .u8 (getV (got xs s 1) 0 1)) ∧ RD w' g (rst xs s 1) (shrt xs.length s 1) ∧ w.grownBy w' (some g)
def NumP16 (w : World) (g : Nat) (xs : List Int) (s : Bool) (e : Ending) (w' : World) : Prop :=
  e = .returned (.int .u16 (getV (got xs s 2) 0 2)) ∧ RD w' g (rst xs s 2) (shrt xs.length s 2) ∧ w.grownBy w' (some g)
theorem next16 (g : Nat) (xs : List Int) (s : Bool) (w : World) (h : RD w g xs s) : Calls Try.prog 36 #[.pointer (some ⟨g, 0, none⟩)] w (NumP16 w g xs s) := by
  have H := Lib.hid h
  clear h
  go_enter Try.func36, Try.ntmps36
  go_wp2_with (first
    | (go_at_call 33; refine (width16 _).mono ?_; rintro e w' ⟨rfl, rfl⟩)
    | (go_at_call 41; refine (take_rd g xs s 2 _ H.out).mono ?_; rintro e w1 ⟨v, rfl, hs, _, hr, hg⟩; have HS := Lib.hid hs; have HR := Lib.hid hr; have HG := Lib.hid hg; clear hs hr hg)
    | (go_at_call 40; refine (get16 _ _ 0 (by decide) _ HS.out).mono ?_; rintro e w' ⟨rfl, rfl⟩))
  go_ret
  exact ⟨rfl, HR.out, HG.out⟩
theorem u16 (g : Nat) (xs : List Int) (s : Bool) (w : World) (h : RD w g xs s) : Calls Try.prog 25 #[.pointer (some ⟨g, 0, none⟩)] w (NumP16 w g xs s) := by
  have H := Lib.hid h
  clear h
  go_enter Try.func25, Try.ntmps25
  go_wp2_with (go_at_call 36; refine (next16 g xs s _ H.out).mono ?_; rintro e w1 ⟨rfl, hr, hg⟩; have HR := Lib.hid hr; have HG := Lib.hid hg; clear hr hg)
  go_ret
  exact ⟨rfl, HR.out, HG.out⟩
def NumP32 (w : World) (g : Nat) (xs : List Int) (s : Bool) (e : Ending) (w' : World) : Prop :=
  e = .returned (.int .u32 (getV (got xs s 4) 0 4)) ∧ RD w' g (rst xs s 4) (shrt xs.length s 4) ∧ w.grownBy w' (some g)
theorem next32 (g : Nat) (xs : List Int) (s : Bool) (w : World) (h : RD w g xs s) : Calls Try.prog 37 #[.pointer (some ⟨g, 0, none⟩)] w (NumP32 w g xs s) := by
  have H := Lib.hid h
  clear h
  go_enter Try.func37, Try.ntmps37
  go_wp2_with (first
    | (go_at_call 34; refine (width32 _).mono ?_; rintro e w' ⟨rfl, rfl⟩)
    | (go_at_call 41; refine (take_rd g xs s 4 _ H.out).mono ?_; rintro e w1 ⟨v, rfl, hs, _, hr, hg⟩; have HS := Lib.hid hs; have HR := Lib.hid hr; have HG := Lib.hid hg; clear hs hr hg)
    | (go_at_call 42; refine (get32 _ _ 0 (by decide) _ HS.out).mono ?_; rintro e w' ⟨rfl, rfl⟩))
  go_ret
  exact ⟨rfl, HR.out, HG.out⟩
theorem u32 (g : Nat) (xs : List Int) (s : Bool) (w : World) (h : RD w g xs s) : Calls Try.prog 26 #[.pointer (some ⟨g, 0, none⟩)] w (NumP32 w g xs s) := by
  have H := Lib.hid h
  clear h
  go_enter Try.func26, Try.ntmps26
  go_wp2_with (go_at_call 37; refine (next32 g xs s _ H.out).mono ?_; rintro e w1 ⟨rfl, hr, hg⟩; have HR := Lib.hid hr; have HG := Lib.hid hg; clear hr hg)
  go_ret
  exact ⟨rfl, HR.out, HG.out⟩
def NumP64 (w : World) (g : Nat) (xs : List Int) (s : Bool) (e : Ending) (w' : World) : Prop :=
  e = .returned (.int .u64 (getV (got xs s 8) 0 8)) ∧ RD w' g (rst xs s 8) (shrt xs.length s 8) ∧ w.grownBy w' (some g)
/-- End: 0, too few (10), too many (2). -/
def endE (xs : List Int) (s : Bool) : Int := if s = true then 10 else if xs = [] then 0 else 2
end Go.Proofs.Ytabopcfhonkecaa
