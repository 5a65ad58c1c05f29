/-
  Contracts of the functions that the statements of package octet go through: what must come of fixed calls. No condition.
-/
import Derived.Test.YtmjbfjkbfnpnlaaE
namespace Go.Proofs.Ytmjbfjkbfnpnlaa
open Go.RowKit
theorem below_grown {w0 w w' : World} {row : Option Nat} (h : Below w0.heap.size w0 w) (hg : w.grownBy w' row) (hr : ∀ k, row = some k → w0.heap.size ≤ k) : Below w0.heap.size w0 w' := h.grown hg h.size hr

theorem sees_row (w : World) (g : Nat) (xs : List Int) (hb : Byt xs) (hm : xs.length ≤ maxLen) (h : w.heap[g]? = some (.cells (bcells xs) 5 (0, 0))) (n : Nat) (hn : n = xs.length) : Sees w (.slice (some ⟨g, 0, none⟩) n n) xs := by
  subst hn
  refine ⟨hb, ?_⟩
  by_cases h0 : xs = []
  · subst h0; exact .inr (.inl ⟨_, _, rfl, rfl, by simp [maxLen]⟩)
  · refine .inr (.inr ⟨_, _, _, rfl, h0, Nat.le_refl _, hm, fun i hi => ?_⟩)
    rw [cell_of_row _ _ _ _ _ _ h]
    simp [bcells, nth, hi, List.getD]
theorem sees_new (w : World) (cs : Array Value) (xs : List Int) (hc : cs = bcells xs) (hb : Byt xs) (hm : xs.length ≤ maxLen) (g : Nat) (hg : w.heap.size = g) (n : Nat) (hn : n = xs.length) :
    Sees (w.alloc (.cells cs 5)) (.slice (some ⟨g, 0, none⟩) n n) xs := by
  subst hc hg
  exact sees_row _ _ xs hb hm (heap_alloc_new w _) n hn
theorem byt_of (xs : List Int) (h : xs.all (fun x => decide (0 ≤ x) && decide (x ≤ 255)) = true) : Byt xs := fun x hx => by
  have := List.all_eq_true.1 h x hx
  simpa using this
/-- A call's new row of bytes. -/
def NewP (w : World) (n : Nat) (xs : List Int) (e : Ending) (w' : World) : Prop :=
  ∃ g, e = .returned (.slice (some ⟨g, 0, none⟩) n n) ∧ Sees w' (.slice (some ⟨g, 0, none⟩) n n) xs ∧ Below w.heap.size w w' ∧ w.heap.size ≤ g
theorem put16n (v : Int) (h0 : 0 ≤ v) (h1 : v ≤ 65535) (w : World) (xs : List Int) (hx : bcells xs = #[.int .u8 (v / 256), .int .u8 (v % 256)]) (hb : Byt xs) (hl : xs.length = 2) : Calls Try.prog 16 #[.int .u16 v] w (NewP w 2 xs) :=
  (put16 v h0 h1 w).mono fun e w' ⟨he, hw⟩ => by
    subst he hw
    exact ⟨_, rfl, sees_new _ _ xs hx.symm hb (by rw [hl]; decide) _ rfl _ hl.symm, (Below.refl _ _).alloc (Nat.le_refl _) _, Nat.le_refl _⟩
def ReadP (w : World) (xs : List Int) (e : Ending) (w' : World) : Prop :=
  ∃ g, e = .returned (.pointer (some ⟨g, 0, none⟩)) ∧ RD w' g xs false ∧ Below w.heap.size w w' ∧ w.heap.size ≤ g
theorem readn (v : Value) (xs : List Int) (hl : xs.length ≤ 140737488355328) (w : World) (h : Sees w v xs) : Calls Try.prog 23 #[v] w (ReadP w xs) :=
  (read_rd v xs hl w h).mono fun e w' ⟨he, hw⟩ => by
    subst he hw
    exact ⟨_, rfl, rd_made w xs h.1 (by unfold maxLen; omega), ((Below.refl _ _).alloc (Nat.le_refl _) _).alloc (by simp) _, by omega⟩
set_option maxHeartbeats 1000000 in
theorem alive (w : World) : Calls Try.prog 8 #[] w fun e w' => e = .returned (.bool true) ∧ Below w.heap.size w w' := by
  go_enter Try.func8, Try.ntmps8
  go_wp2_with fail
  refine (put16n 258 (by decide) (by decide) _ [1, 2] rfl (byt_of _ rfl) rfl).mono ?_
  rintro e w1 ⟨g, rfl, hs, hb, _⟩
  have B1 := Lib.hid hb
  have S1 := Lib.hid hs
  clear hs hb
  go_wp2_with fail
  refine (get32 _ [1, 2, 3] 0 (by decide) _ (sees_new _ _ [1, 2, 3] rfl (byt_of _ rfl) (by decide) _ (by simp) _ rfl)).mono ?_
  rw [show getV [1, 2, 3] 0 4 = 0 from by decide, show getE [(1 : Int), 2, 3].length 0 4 = 10 from by decide]
  rintro e w2 ⟨rfl, rfl⟩
  go_wp2_with fail
  refine (readn _ [0, 1, 9] (by decide) _ (sees_new _ _ [0, 1, 9] rfl (byt_of _ rfl) (by decide) _ (by simp) _ rfl)).mono ?_
  rintro e w2 ⟨r, rfl, hr, hb, hl⟩
  have B2 : Hid (Below w1.heap.size w1 w2) := ((((Below.refl _ _).alloc (Nat.le_refl _) _).alloc (by simp) _).trans (hb.mono (by simp; omega)))
  have hconv := (S1.out.below B2.out).str
  rw [show strOfNums [1, 2] = ⟨#[1, 2]⟩ from rfl] at hconv
  have R2 := Lib.hid hr
  have L2 : Hid (w.heap.size ≤ r) := by have := B1.out.size; simp at hl; show _ ≤ _; omega
  clear hr hb hl
  go_wp2_with fail
  refine (u16 r [0, 1, 9] false _ R2.out).mono ?_
  rintro e w3 ⟨he, hr, hg⟩
  rw [show getV (got [0, 1, 9] false 2) 0 2 = 1 from by decide] at he
  rw [show rst [0, 1, 9] false 2 = [9] from by decide, show shrt [(0 : Int), 1, 9].length false 2 = false from by decide] at hr
  subst he
  have R3 := Lib.hid hr
  have G3 := Lib.hid hg
  clear hr hg
  go_wp2_with fail
  refine (u8 r [9] false _ R3.out).mono ?_
  rintro e w4 ⟨he, hr, hg⟩
  rw [show getV (got [9] false 1) 0 1 = 9 from by decide] at he
  rw [show rst [9] false 1 = [] from by decide, show shrt [(9 : Int)].length false 1 = false from by decide] at hr
  subst he
  have R4 := Lib.hid hr
  have G4 := Lib.hid hg
  clear hr hg
  go_wp2_with fail
  refine (endr r [] false _ R4.out).mono ?_
  rw [show endE [] false = 0 from by decide]
  rintro e w5 ⟨rfl, rfl⟩
  go_wp2_with fail
  refine (u8 r [] false _ R4.out).mono ?_
  rintro e w5 ⟨he, hr, hg⟩
  rw [show getV (got [] false 1) 0 1 = 0 from by decide] at he
  rw [show rst [] false 1 = [] from by decide, show shrt ([] : List Int).length false 1 = true from by decide] at hr
  subst he
  have R5 := Lib.hid hr
  have G5 := Lib.hid hg
  clear hr hg
  go_wp2_with fail
  refine (endr r [] true _ R5.out).mono ?_
  rw [show endE [] true = 10 from by decide]
  rintro e w6 ⟨rfl, rfl⟩
  go_wp2_with fail
  go_ret
  refine ⟨rfl, ?_⟩
  have hk : ∀ k, some r = some k → w.heap.size ≤ k := fun k e => by injection e with e; have := L2.out; omega
  have b2 := B1.out.trans (B2.out.mono B1.out.size)
  exact ((b2.grown G3.out b2.size hk).grown G4.out (by have := b2.size; have := G3.out.size; omega) hk).grown G5.out (by have := b2.size; have := G3.out.size; have := G4.out.size; omega) hk
end Go.Proofs.Ytmjbfjkbfnpnlaa
