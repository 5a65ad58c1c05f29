/-
  Contracts: the closure of disk.forget, slices.IndexFunc, slices.DeleteFunc over a row of writes. Condition: the row lies in memory as said.
-/
import Derived.Test.YtjdamlmoegippaaDoorPlB
import Derived.Lib.SliceRun
namespace Go.Proofs.YtjdamlmoegippaaDoor.dk
open Go.RowKit
/-- A text of a write. -/
abbrev tv (b : Nat) : Value := .slice (some ⟨b, 0, none⟩) 512 512
/-- Writes as cells: the sector, the byte, the text's block. -/
def fl : List (Nat × Nat × Nat) → List Value
  | [] => []
  | (s, _, b) :: r => .int .u32 s :: tv b :: fl r
theorem fl_len : ∀ ts : List (Nat × Nat × Nat), (fl ts).length = ts.length * 2
  | [] => rfl
  | (_, _, _) :: r => by simp [fl, fl_len r]; omega
theorem fl_at : ∀ {ts : List (Nat × Nat × Nat)} {i s y b : Nat}, ts[i]? = some (s, y, b) → (fl ts)[i * 2]? = some (.int .u32 s) ∧ (fl ts)[i * 2 + 1]? = some (tv b)
  | [], i, s, y, b, h => by simp at h
  | (s', y', b') :: r, 0, s, y, b, h => by
    simp at h; obtain ⟨rfl, rfl, rfl⟩ := h; exact ⟨rfl, rfl⟩
  | (s', y', b') :: r, i + 1, s, y, b, h => by
    have := fl_at (ts := r) (i := i) (s := s) (y := y) (b := b) (by simpa using h)
    rw [show (i + 1) * 2 = i * 2 + 1 + 1 by omega]
    exact this
theorem fl_one : ∀ (ts : List (Nat × Nat × Nat)), ∀ u ∈ fl ts, u.oneCell' = true
  | [], u, h => by simp [fl] at h
  | (_, _, _) :: r, u, h => by
    simp only [fl, List.mem_cons] at h
    rcases h with rfl | rfl | h
    · rfl
    · rfl
    · exact fl_one r u h
theorem WS_open {w : World} : ∀ {ws : List (Nat × Nat)} {vs : List Value}, WS w ws vs → ∃ ts : List (Nat × Nat × Nat), ws = ts.map (fun t => (t.1, t.2.1)) ∧ vs = fl ts ∧ ∀ t ∈ ts, t.1 < 65536 ∧ TX w (tv t.2.2) (tx t.2.1) ∧ t.2.1 < 256
  | [], vs, h => ⟨[], rfl, h, by simp⟩
  | (s, y) :: r, vs, h => by
    obtain ⟨v, vs', e, h1, ⟨b, e2, h2⟩, h3, h4⟩ := h
    obtain ⟨ts, t1, t2, t3⟩ := WS_open h4
    rw [tx_len] at e2
    refine ⟨(s, y, b) :: ts, by simp [t1], by rw [e, t2, e2]; rfl, fun t ht => ?_⟩
    rcases List.mem_cons.1 ht with rfl | ht
    · exact ⟨h1, ⟨b, by rw [tx_len], h2⟩, h3⟩
    · exact t3 t ht
theorem WS_close {w : World} : ∀ {ts : List (Nat × Nat × Nat)}, (∀ t ∈ ts, t.1 < 65536 ∧ TX w (tv t.2.2) (tx t.2.1) ∧ t.2.1 < 256) → WS w (ts.map (fun t => (t.1, t.2.1))) (fl ts)
  | [], _ => rfl
  | (s, y, b) :: r, h => by
    have h0 := h (s, y, b) (by simp)
    exact ⟨_, _, rfl, h0.1, h0.2.1, h0.2.2, WS_close (fun t ht => h t (by simp [ht]))⟩
set_option maxRecDepth 100000 in
theorem clos79 (a s vb q : Nat) (w : World) (h : w.cell? ⟨q, 0, none⟩ = some (.int .u32 s)) :
    Calls Tryd.prog 57 #[.agg #[.int .u32 a, tv vb], .pointer (some ⟨q, 0, none⟩)] w fun e w' => e = .returned (.bool (decide (a = s))) ∧ Below w.heap.size w w' := by
  have hl := World.block_lt_of_cell? w _ h
  have h1 : (w.alloc (.cells #[.int .u32 a, tv vb] 100)).cell? ⟨q, 0, none⟩ = some (.int .u32 s) := (((Below.refl _ _).alloc (Nat.le_refl _) _).cell (p := ⟨q, 0, none⟩) hl).trans h
  have B : Hid (Below w.heap.size w (w.alloc (.cells #[.int .u32 a, tv vb] 100))) := (Below.refl _ _).alloc (Nat.le_refl _) _
  clear h hl
  by_cases e : a = s
  · subst e
    go_enter Tryd.func57, Tryd.ntmps57
    go_wp2_with fail
    go_ret
    exact ⟨by simp, B.out⟩
  · have e2 : ((a : Int) == (s : Int)) = false := by simp; omega
    have D : Hid (decide (a = s) = false) := by show _ = _; simp [e]
    clear e
    go_enter Tryd.func57, Tryd.ntmps57
    go_wp2_with fail
    go_ret
    exact ⟨by rw [D.out]; simp, B.out⟩
/-- The first write of a sector. -/
def fst? (s : Nat) (ts : List (Nat × Nat × Nat)) : Nat → Prop := fun i => i < ts.length ∧ (∀ t, ts[i]? = some t → t.1 = s) ∧ ∀ j t, j < i → ts[j]? = some t → t.1 ≠ s
set_option maxRecDepth 100000 in
set_option maxHeartbeats 2000000 in
theorem indexF {w : World} {x : Option Addr} {n k q s : Nat} {ts : List (Nat × Nat × Nat)} (h : Rw w 100 2 (.slice x n k) n (fl ts)) (hn : ts.length = n) (hq : w.cell? ⟨q, 0, none⟩ = some (.int .u32 s)) (hs : ∃ t ∈ ts, t.1 = s) :
    Calls Tryd.prog 62 #[.slice x n k, .func (.func 57) #[] #[.pointer (some ⟨q, 0, none⟩)]] w fun e w' => ∃ i : Nat, e = .returned (.int .i64 i) ∧ fst? s ts i ∧ Below w.heap.size w w' := by
  have R := Lib.hid h
  have HQ := Lib.hid hq
  have HS := Lib.hid hs
  have HN := Lib.hid hn
  have hk2 : n ≤ 9223372036854775807 := by obtain ⟨_, _, e, h1, h2⟩ := h.form; injection e with e1 e2 e3; unfold maxLen at h2; omega
  clear h hq hs hn
  go_enter Tryd.func62, Tryd.ntmps62
  go_wp2_with fail
  go_loopg [5, 8] n (fun r _ vi wr => ∃ i : Nat, r + i = n ∧ vi = .int .i64 i ∧ (∀ j t, j < i → ts[j]? = some t → t.1 ≠ s) ∧ Below w.heap.size w wr)
  case atStart => exact ⟨0, by omega, rfl, fun j t h => by omega, Below.refl _ _⟩
  case round =>
    obtain ⟨i, hr, rfl, hne, hbl⟩ := hrel
    have NE := Lib.hid hne
    have BL := Lib.hid hbl
    have HR := Lib.hid hr
    clear hne hbl hr
    by_cases hi : i < n
    · obtain ⟨⟨a, y, vb⟩, ht⟩ : ∃ t, ts[i]? = some t := ⟨_, List.getElem?_eq_getElem (by rw [HN.out]; exact hi)⟩
      have HT := Lib.hid ht
      obtain ⟨b, o, rfl, hc0, _⟩ := Rw.cell R.out (fl_at ht).1
      obtain ⟨b', o', he, hc1, _⟩ := Rw.cell R.out (fl_at ht).2
      simp only [Option.some.injEq, Addr.mk.injEq] at he
      obtain ⟨rfl, rfl, _⟩ := he
      have hbw : b < w.heap.size := World.block_lt_of_cell? w _ hc0
      have hd0 : wr.cell? ⟨b, o + i * 2, none⟩ = some (.int .u32 a) := (BL.out.cell (p := ⟨b, o + i * 2, none⟩) hbw).trans hc0
      have hd1 : wr.cell? ⟨b, o + i * 2 + 1, none⟩ = some (tv vb) := (BL.out.cell (p := ⟨b, o + i * 2 + 1, none⟩) hbw).trans (by rw [Nat.add_assoc]; exact hc1)
      have hq' : wr.cell? ⟨q, 0, none⟩ = some (.int .u32 s) := (BL.out.cell (p := ⟨q, 0, none⟩) (World.block_lt_of_cell? w _ HQ.out)).trans HQ.out
      have C := Lib.hid (clos79 a s vb q wr hq')
      clear hc0 hc1 hbw ht hq'
      by_cases e : a = s
      · have D : Hid (decide (a = s) = true) := by show _ = _; simp [e]
        have E := Lib.hid e
        clear e
        go_wp2_with fail
        refine C.out.mono ?_
        rintro e w' ⟨rfl, hb'⟩
        rw [D.out]
        have B2 := Lib.hid (BL.out.trans (hb'.mono BL.out.size))
        clear hb'
        go_wp2_with fail
        go_ret
        refine ⟨i, rfl, ⟨by rw [HN.out]; exact hi, fun t ht => ?_, NE.out⟩, B2.out⟩
        rw [HT.out] at ht
        injection ht with ht
        rw [← ht]; exact E.out
      · have D : Hid (decide (a = s) = false) := by show _ = _; simp [e]
        have E := Lib.hid e
        clear e
        go_wp2_with fail
        refine C.out.mono ?_
        rintro e w' ⟨rfl, hb'⟩
        rw [D.out]
        have B2 := Lib.hid (BL.out.trans (hb'.mono BL.out.size))
        clear hb'
        go_wp2_with fail
        go_roundg (n - (i + 1))
        case measure => have := HR.out; omega
        case rel =>
          refine ⟨i + 1, by omega, by go_num, fun j t hj ht => ?_, B2.out⟩
          by_cases hji : j < i
          · exact NE.out j t hji ht
          · have : j = i := by omega
            subst this
            rw [HT.out] at ht
            injection ht with ht
            rw [← ht]; exact E.out
    · exfalso
      obtain ⟨t, ht, hts⟩ := HS.out
      obtain ⟨j, hj, rfl⟩ := List.getElem_of_mem ht
      exact NE.out j _ (by have := HN.out; omega) (List.getElem?_eq_getElem hj) hts
end Go.Proofs.YtjdamlmoegippaaDoor.dk
