/-
  Contract: disk.Crash. Condition: the disk lies in memory as said.
-/
import Derived.Test.YtklhnibmpdaioaaDI
namespace Go.Proofs.Ytklhnibmpdaioaa
open Go.RowKit
/-- Is a write kept? -/
def kbit (f : Nat → Int) (n i : Nat) : Bool := decide (i / 8 < n) && (bits .and .u8 (f (i / 8) / 2 ^ (i % 8)) 1 == 1)
theorem clos68 (i : Nat) (hi : i ≤ 1000000) (g : Nat) (x : Option Addr) (n c : Nat) (f : Nat → Int) (W : World) (hg : W.cell? ⟨g, 0, none⟩ = some (.slice x n c)) (hn : n ≤ 9223372036854775807)
    (hx : ∀ j, j < n → 0 ≤ f j ∧ f j ≤ 255 ∧ ∃ b o, x = some ⟨b, o, none⟩ ∧ W.cell? ⟨b, o + j, none⟩ = some (.int .u8 (f j))) :
    Calls Try.prog 68 #[.int .i64 i, .pointer (some ⟨g, 0, none⟩)] W fun e w' => e = .returned (.bool (kbit f n i)) ∧ W = w' := by
  unfold kbit
  by_cases h : i / 8 < n
  · obtain ⟨h0, h1, b, o, rfl, hc⟩ := hx (i / 8) h
    generalize f (i / 8) = z at *
    have hd : ((i : Int) / 8 < (n : Int)) := by omega
    clear hx
    go_enter Try.func68, Try.ntmps68
    go_wp2_with fail
    go_ret
    exact ⟨by first | rfl | (rw [decide_eq_true h, Bool.true_and]; rfl), rfl⟩
  · have hd : ¬ ((i : Int) / 8 < (n : Int)) := by omega
    clear hx
    go_enter Try.func68, Try.ntmps68
    go_wp2_with fail
    go_ret
    exact ⟨by first | rfl | (rw [decide_eq_false h, Bool.false_and]; rfl), rfl⟩
section
variable {w w' : World} {g N sb hb : Nat} {wv : Value} {su : Nat → Option Nat} {ws : List (Nat × Nat)} {rg : List Value} {c p : Int} {d : Bool} {K : Nat}
set_option maxRecDepth 100000 in
set_option maxHeartbeats 1000000 in
theorem crashD (h : DK w g N sb hb wv su ws rg c p d K) (x : Option Addr) (n k : Nat) (f : Nat → Int) (hn : n ≤ 9223372036854775807)
    (hx : ∀ j, j < n → 0 ≤ f j ∧ f j ≤ 255 ∧ ∃ b o, x = some ⟨b, o, none⟩ ∧ b < w.heap.size ∧ ¬ Dt g sb hb wv b ∧ w.cell? ⟨b, o + j, none⟩ = some (.int .u8 (f j))) :
    Calls Try.prog 31 #[.pointer (some ⟨g, 0, none⟩), .slice x n k] w (DkP w g N sb hb wv (keepS (kbit f n) su ws ws.length) [] rg c (-1) false K (.int .i64 0)) := by
  have n1 := h.n1
  obtain ⟨kc, hkc⟩ : ∃ kc, kc = w.heap.size := ⟨_, rfl⟩
  obtain ⟨w1, hw1⟩ : ∃ w1, w1 = w.alloc (.cells #[.slice x n k] 32) := ⟨_, rfl⟩
  have hbw1 : Below w.heap.size w w1 := by rw [hw1]; exact (Below.refl _ _).alloc (Nat.le_refl _) _
  have h1 := h.below hbw1
  have hkr : w1.heap[kc]? = some (.cells #[.slice x n k] 32 (0, 0)) := by rw [hw1, hkc]; exact heap_alloc_new _ _
  have hkn : ¬ Dt g sb hb wv kc := by
    have q1 := h.lt
    obtain ⟨_, _, m1, _⟩ := h.sure
    obtain ⟨_, _, m2, _⟩ := h.shown
    obtain ⟨vs, r, _⟩ := h.waits
    have q2 := m1.lt
    have q3 := m2.lt
    intro hd
    rcases hd with e | e | e | e
    · omega
    · omega
    · omega
    · have := (r.lt kc e).1; omega
  have hwl : ws.length ≤ 1000000 := by obtain ⟨_, _, _, hb0, _⟩ := h.sure; have := h.wl; omega
  have ST := Lib.hid (settleD h1 68 #[.pointer (some ⟨kc, 0, none⟩)] (kbit f n) eg68 (fun i W hi hm =>
    clos68 i (by omega) kc x n k f W ((mods_cell hm (Array.getElem?_eq_some_iff.1 hkr).1 hkn).trans (by rw [cell_of_row _ _ _ _ _ _ hkr]; rfl)) hn (fun j hj => by
      obtain ⟨p0, p1, b, o, e, hbl, hnd, hcell⟩ := hx j hj
      have q := hbw1.size
      exact ⟨p0, p1, b, o, e, (mods_cell hm (by omega) hnd).trans ((hbw1.cell (p := ⟨b, o + j, none⟩) hbl).trans hcell)⟩)))
  have SZ := Lib.hid (sizeD h1)
  have HB1 := Lib.hid hbw1
  have hz : ((N : Int) == 0) = false := by simp; omega
  have HW1 := Lib.hid hw1
  have HKC := Lib.hid hkc
  have hmf : ∀ (fn : Fn) (first cap : Array Value) (w : World), (Instr.makeFunc fn first cap).run Try.prog w = .ok (.func fn first cap) w := fun _ _ _ _ => rfl
  clear h h1 hw1 hbw1 hkr hkn hkc hx hwl
  go_enter Try.func31, Try.ntmps31
  go_wp2_with fail
  rw [← HW1.out, ← HKC.out]
  refine SZ.out.mono ?_
  rintro e w' ⟨rfl, rfl⟩
  go_wp2_with fail
  refine ST.out.mono ?_
  rintro e w2 ⟨rfl, d2, m2⟩
  have e69 := d2.c69
  have f69 := d2.fz 69
  have hm1 : Mods (fun j => j = g) w2 (w2.setCell ⟨g, 69, none⟩ (.int .i64 (-1))) := Mods.set (S := fun j => j = g) w2 ⟨g, 69, none⟩ _ rfl
  have d3 := d2.reset (by rw [row_set d2.row, dset_69 d2.len]) hm1
  have hm2 : Mods (fun j => j = g) (w2.setCell ⟨g, 69, none⟩ (.int .i64 (-1))) ((w2.setCell ⟨g, 69, none⟩ (.int .i64 (-1))).setCell ⟨g, 70, none⟩ (.bool false)) := Mods.set (S := fun j => j = g) _ ⟨g, 70, none⟩ _ rfl
  have d4 := d3.reset (by rw [row_set d3.row, dset_70 d3.len]) hm2
  have e70 := d3.c70
  have f70 := d3.fz 70
  have D4 := Lib.hid d4
  have M2 := Lib.hid (m2.trans (hm1.trans hm2 (fun b hb => .inl hb)) (fun b hb' => .inl (.inl hb')))
  clear d2 m2 hm1 d3 hm2 d4
  go_wp2_with fail
  go_ret
  exact ⟨_, rfl, D4.out, (Mods.of_below HB1.out).trans M2.out (fun b hb => .inl hb), anew_none _ _⟩
end
end Go.Proofs.Ytklhnibmpdaioaa
