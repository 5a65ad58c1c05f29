/-
  Contract: slices.DeleteFunc over a row of writes with the closure of disk.forget. Condition: the row lies in memory as said.
-/
import Derived.Test.YtjdamlmoegippaaDoorDkDTa
namespace Go.Proofs.YtjdamlmoegippaaDoor.dk
open Go.RowKit
theorem fl_get : ∀ (qs : List (Nat × Nat × Nat)) (j : Nat), (fl qs)[j]? = (qs[j / 2]?).map (fun t => if j % 2 = 0 then .int .u32 (t.1 : Int) else tv t.2.2)
  | [], j => by simp [fl]
  | (s, y, b) :: r, 0 => by simp [fl]
  | (s, y, b) :: r, 1 => by simp [fl]
  | (s, y, b) :: r, j + 2 => by
    have h := fl_get r j
    rw [show (j + 2) / 2 = j / 2 + 1 by omega, show (j + 2) % 2 = j % 2 by omega]
    exact h
section
variable {w : World} {x : Option Addr} {n k b o : Nat} {qs : List (Nat × Nat × Nat)}
theorem Rw.put2 (h : Rw w 100 2 (.slice x n k) n (fl qs)) (hx : x = some ⟨b, o, none⟩) (i s y vb : Nat) (hl : qs.length = n) (hi : i < n) :
    Rw ((w.setCell ⟨b, o + i * 2, none⟩ (.int .u32 s)).setCell ⟨b, o + i * 2 + 1, none⟩ (tv vb)) 100 2 (.slice x n k) n (fl (qs.set i (s, y, vb))) := by
  subst hx
  refine ⟨by rw [fl_len, List.length_set, hl], fl_one _, ?_⟩
  rcases h.2.2 with ⟨h1, _⟩ | ⟨b', o', cap, cs, h1, hg, h2, h3, h4, h5⟩
  · simp at h1
  · simp only [Value.slice.injEq, Option.some.injEq, Addr.mk.injEq] at h1
    obtain ⟨⟨rfl, rfl, _⟩, _, rfl⟩ := h1
    obtain ⟨cs', a1, a2, a3, a4⟩ := heap_setCells b [.int .u32 (s : Int), tv vb] (o + i * 2) w cs 100 (0, 0) hg
    refine .inr ⟨b, o, k, cs', rfl, a1, by omega, h3, h4, fun j u hj => ?_⟩
    rw [fl_get] at hj
    have hkn : n * 2 ≤ k * 2 := by omega
    by_cases hji : j / 2 = i
    · rw [hji, List.getElem?_set_self (by omega)] at hj
      simp only [Option.map_some, Option.some.injEq] at hj
      by_cases hm : j % 2 = 0
      · rw [if_pos hm] at hj
        have := a4 0 _ rfl (by omega)
        rw [show o + j = o + i * 2 + 0 by omega, this, hj]
      · rw [if_neg hm] at hj
        have := a4 1 _ rfl (by omega)
        rw [show o + j = o + i * 2 + 1 by omega, this, hj]
    · rw [List.getElem?_set_ne (fun e => hji e.symm)] at hj
      rw [a3 _ (by simp; omega)]
      exact h5 j u (by rw [fl_get]; exact hj)
theorem Rw.shrink (h : Rw w 100 2 (.slice x n k) n (fl qs)) (m : Nat) (hm : m ≤ n) (hl : qs.length = n) : Rw w 100 2 (.slice x m k) m (fl (qs.take m)) := by
  refine ⟨by rw [fl_len, List.length_take]; congr 1; omega, fl_one _, ?_⟩
  rcases h.2.2 with ⟨h1, h0⟩ | ⟨b, o, cap, cs, h1, hg, h2, h3, h4, h5⟩
  · simp only [Value.slice.injEq] at h1
    exact .inl ⟨by rw [h1.1, h1.2.2, show m = 0 by omega], by omega⟩
  · simp only [Value.slice.injEq] at h1
    obtain ⟨rfl, _, rfl⟩ := h1
    refine .inr ⟨b, o, k, cs, rfl, hg, h2, by omega, h4, fun j u hj => h5 j u ?_⟩
    rw [fl_get] at hj ⊢
    by_cases hm' : j / 2 < m
    · rw [List.getElem?_take, if_pos hm'] at hj
      exact hj
    · rw [List.getElem?_take, if_neg hm'] at hj
      simp at hj
theorem Rw.caps (h : Rw w 100 2 (.slice x n k) n (fl qs)) : Rw w 100 2 (.slice x n n) n (fl qs) := by
  refine ⟨h.1, h.2.1, ?_⟩
  rcases h.2.2 with ⟨h1, h0⟩ | ⟨b, o, cap, cs, h1, hg, h2, h3, h4, h5⟩
  · simp only [Value.slice.injEq] at h1
    subst h0
    exact .inl ⟨by rw [h1.1], rfl⟩
  · simp only [Value.slice.injEq] at h1
    obtain ⟨rfl, _, rfl⟩ := h1
    have : n * 2 ≤ k * 2 := by omega
    exact .inr ⟨b, o, n, cs, rfl, hg, by omega, Nat.le_refl _, by omega, h5⟩
end
/-- What clear writes. -/
def zl (n : Nat) : List Value := (Builtin.zeroCells (Value.agg #[.int .u32 0, .slice none 0 0]).cells n).toList
theorem zl_len (n : Nat) : (zl n).length = n * 2 := by
  simp [zl, Builtin.zeroCells, Value.cells]
theorem zl_one (n : Nat) : ∀ u ∈ zl n, u.oneCell' = true := by
  intro u hu
  have : u = .int .u32 0 ∨ u = .slice none 0 0 := by
    simp [zl, Builtin.zeroCells, Value.cells] at hu
    obtain ⟨i, _, rfl⟩ := hu
    rcases Nat.mod_two_eq_zero_or_one i with e | e <;> simp [e]
  rcases this with rfl | rfl <;> rfl
theorem clear49 (w : World) (ty : TypeId) (b o n c : Nat) (hn : 0 < n) (hc : ∀ j, j < n * 2 → (w.cell? ⟨b, o + j, none⟩).isSome = true) (hf : ∀ j, j < n * 2 → w.frozen? ⟨b, o + j, none⟩ = false) :
    (Builtin.clear_ #[91] ty #[.slice (some ⟨b, o, none⟩) n c]).run Tryd.prog w = .ok (.tuple #[]) (w.setCells b o (zl n)) := by
  have hst := run_storeCells_cells (P := Tryd.prog) b o (zl n) 0 w (by rw [zl_len]; simpa using hc) (by rw [zl_len]; simpa using hf) (zl_one n)
  simp only [Nat.add_zero] at hst
  obtain ⟨m, rfl⟩ : ∃ m, n = m + 1 := ⟨n - 1, by omega⟩
  unfold zl at *
  simp [Builtin.clear_, run_underlying Tryd.underlying91, hst]
/-- A write that stays. -/
def stay (s : Nat) (ts : List (Nat × Nat × Nat)) : List (Nat × Nat × Nat) := ts.filter (fun t => decide (t.1 ≠ s))
theorem stay_none {s : Nat} {ts : List (Nat × Nat × Nat)} (h : ∀ t ∈ ts, t.1 ≠ s) : stay s ts = ts := List.filter_eq_self.2 (fun t ht => by simp [h t ht])
theorem stay_first {s i : Nat} {ts : List (Nat × Nat × Nat)} (h : fst? s ts i) : stay s (ts.take (i + 1)) = ts.take i := by
  have hi := h.1
  rw [List.take_succ_eq_append_getElem hi]
  unfold stay
  rw [List.filter_append]
  have e1 : (ts.take i).filter (fun t => decide (t.1 ≠ s)) = ts.take i := stay_none (fun t ht => by
    obtain ⟨j, hj, rfl⟩ := List.getElem_of_mem ht
    rw [List.length_take] at hj
    rw [List.getElem_take]
    exact h.2.2 j _ (by omega) (List.getElem?_eq_getElem (by omega)))
  rw [e1]
  have := h.2.1 _ (List.getElem?_eq_getElem hi)
  simp [this]
theorem stay_take {s j : Nat} {ts : List (Nat × Nat × Nat)} {t : Nat × Nat × Nat} (h : ts[j]? = some t) : stay s (ts.take (j + 1)) = if t.1 = s then stay s (ts.take j) else stay s (ts.take j) ++ [t] := by
  obtain ⟨hj, rfl⟩ := List.getElem?_eq_some_iff.1 h
  rw [List.take_succ_eq_append_getElem hj]
  unfold stay
  rw [List.filter_append]
  by_cases e : ts[j].1 = s
  · rw [if_pos e]; simp [e]
  · rw [if_neg e]; simp [e]
set_option maxRecDepth 100000 in
set_option maxHeartbeats 4000000 in
theorem delF {w : World} {x : Option Addr} {n k q s : Nat} {ts : List (Nat × Nat × Nat)} (h : Rw w 100 2 (.slice x n k) n (fl ts)) (hn : ts.length = n) (hq : w.heap[q]? = some (.cells #[.int .u32 s] 22 (0, 0))) (hs : ∃ t ∈ ts, t.1 = s) :
    Calls Tryd.prog 56 #[.slice x n k, .func (.func 57) #[] #[.pointer (some ⟨q, 0, none⟩)]] w fun e w' => ∃ m : Nat, e = .returned (.slice x m k) ∧ m = (stay s ts).length ∧ Rw w' 100 2 (.slice x m k) m (fl (stay s ts)) ∧ Mods (fun b => (Value.slice x n k).ownBlock = some b) w w' := by
  have hn0 : 0 < n := by obtain ⟨t, ht, _⟩ := hs; rw [← hn]; exact List.length_pos_of_mem ht
  obtain ⟨b, o, rfl⟩ : ∃ b o, x = some ⟨b, o, none⟩ := by
    rcases h.2.2 with ⟨_, h0⟩ | ⟨b, o, cap, cs, h1, _⟩
    · omega
    · simp only [Value.slice.injEq] at h1; exact ⟨b, o, h1.1⟩
  have hnk : n ≤ k ∧ k ≤ 9223372036854775807 := by obtain ⟨_, _, e, h1, h2⟩ := h.form; injection e with e1 e2 e3; unfold maxLen at h2; omega
  have hqb : q ≠ b := by
    rcases h.2.2 with ⟨h1, _⟩ | ⟨b', o', cap, cs, h1, hg, _⟩
    · simp at h1
    · simp only [Value.slice.injEq, Option.some.injEq, Addr.mk.injEq] at h1
      obtain ⟨⟨rfl, _, _⟩, _, _⟩ := h1
      intro e; subst e; rw [hg] at hq; injection hq with hq; injection hq with _ hq; cases hq
  have hqc : w.cell? ⟨q, 0, none⟩ = some (.int .u32 s) := by rw [cell_of_row _ _ _ _ _ _ hq]; rfl
  have I := Lib.hid (indexF h hn hqc hs)
  have R := Lib.hid h
  have HN := Lib.hid hn
  have HQ := Lib.hid hq
  have QB := Lib.hid hqb
  have N0 := Lib.hid hn0
  have NK := Lib.hid hnk
  have nk1 := hnk.1
  have nk2 := hnk.2
  clear h hn hq hs hqb hqc hn0 hnk
  go_enter Tryd.func56, Tryd.ntmps56
  go_wp2_with fail
  refine I.out.mono ?_
  rintro e w1 ⟨i0, rfl, hf, hb1⟩
  have F := Lib.hid hf
  have hi0 : i0 < n := by have := hf.1; have := HN.out; omega
  have R1 : Hid (Rw w1 100 2 (.slice (some ⟨b, o, none⟩) n k) n (fl ts)) := R.out.mods (S := fun _ => False) (Mods.of_below hb1) (fun _ _ => id)
  have M1 : Hid (Mods (fun j => j = b) w w1) := Mods.of_below hb1
  clear hf hb1 I
  have q1 : decide ((i0 : Int) = -1) = false := by simp
  go_wp2_with fail
  go_loopg [5, 6, 7] (n - (i0 + 1)) (fun r vi vj _ wr => ∃ (j i : Nat) (qs : List (Nat × Nat × Nat)), r + j = n ∧ vi = .int .i64 i ∧ vj = .int .i64 j ∧ i < j ∧ qs.length = n ∧ qs.take i = stay s (ts.take j) ∧ qs.drop j = ts.drop j ∧ i = (stay s (ts.take j)).length ∧ Rw wr 100 2 (.slice (some ⟨b, o, none⟩) n k) n (fl qs) ∧ Mods (fun j => j = b) w wr)
  case atStart => exact ⟨i0 + 1, i0, ts, by omega, rfl, by go_num, by omega, HN.out, (stay_first F.out).symm, rfl, by rw [stay_first F.out, List.length_take, HN.out]; omega, R1.out, M1.out⟩
  case round =>
    clear R1 M1 q1 hi0 F
    obtain ⟨j, i, qs, hr, rfl, rfl, hij, hql, ht, hd, hil, hR, hM⟩ := hrel
    have HR := Lib.hid hr
    have QL := Lib.hid hql
    have HT := Lib.hid ht
    have HD := Lib.hid hd
    have IL := Lib.hid hil
    have RR := Lib.hid hR
    have MM := Lib.hid hM
    have IJ := Lib.hid hij
    by_cases hjn : j < n
    · obtain ⟨⟨a, y, vb⟩, hta⟩ : ∃ t, ts[j]? = some t := ⟨_, List.getElem?_eq_getElem (by rw [HN.out]; exact hjn)⟩
      have hqa : qs[j]? = some (a, y, vb) := by
        have : (qs.drop j)[0]? = (ts.drop j)[0]? := by rw [hd]
        rw [List.getElem?_drop, List.getElem?_drop] at this
        simpa using this.trans hta
      obtain ⟨⟨a', y', vb'⟩, hqi⟩ : ∃ t, qs[i]? = some t := ⟨_, List.getElem?_eq_getElem (by rw [hql]; omega)⟩
      obtain ⟨b1, o1, e1, hc0, hz0⟩ := Rw.cell hR (fl_at hqa).1
      simp only [Option.some.injEq, Addr.mk.injEq] at e1
      obtain ⟨rfl, rfl, _⟩ := e1
      obtain ⟨b1, o1, e1, hc1, hz1⟩ := Rw.cell hR (fl_at hqa).2
      simp only [Option.some.injEq, Addr.mk.injEq] at e1
      obtain ⟨rfl, rfl, _⟩ := e1
      obtain ⟨b1, o1, e1, hi0, fi0⟩ := Rw.cell hR (fl_at hqi).1
      simp only [Option.some.injEq, Addr.mk.injEq] at e1
      obtain ⟨rfl, rfl, _⟩ := e1
      obtain ⟨b1, o1, e1, hi1, fi1⟩ := Rw.cell hR (fl_at hqi).2
      simp only [Option.some.injEq, Addr.mk.injEq] at e1
      obtain ⟨rfl, rfl, _⟩ := e1
      rw [← Nat.add_assoc] at hc1 hi1 fi1
      have hbw : b < wr.heap.size := World.block_lt_of_cell? wr _ hc0
      have TA := Lib.hid hta
      obtain ⟨q7, hq7⟩ : ∃ q7, q7 = wr.heap.size := ⟨_, rfl⟩
      obtain ⟨w2, hw2⟩ : ∃ w2, w2 = wr.alloc (.cells #[.int .u32 a, tv vb] 100) := ⟨_, rfl⟩
      have b2 : Below wr.heap.size wr w2 := by rw [hw2]; exact (Below.refl _ _).alloc (Nat.le_refl _) _
      have r2 : w2.heap[q7]? = some (.cells #[.int .u32 a, tv vb] 100 (0, 0)) := by rw [hw2, hq7]; exact heap_alloc_new _ _
      have f0 : w2.cell? ⟨q7, 0, none⟩ = some (.int .u32 a) := by rw [cell_of_row _ _ _ _ _ _ r2]; rfl
      have f1 : w2.cell? ⟨q7, 1, none⟩ = some (tv vb) := by rw [cell_of_row _ _ _ _ _ _ r2]; rfl
      have hqc : w2.cell? ⟨q, 0, none⟩ = some (.int .u32 s) := by
        have hql' := (Array.getElem?_eq_some_iff.1 HQ.out).1
        have e1 := hM.block q hql' QB.out
        have e2 := b2.block q (by have := hM.size; omega)
        rw [cell_of_row _ _ _ _ _ _ (e2.trans (e1.trans HQ.out))]; rfl
      have C := Lib.hid (clos79 a s vb q w2 hqc)
      have HW2 := Lib.hid hw2
      have HQ7 := Lib.hid hq7
      have B2 := Lib.hid b2
      have R2 := Lib.hid r2
      have BW := Lib.hid hbw
      have CI := Lib.hid (And.intro hi0 (And.intro hi1 (And.intro fi0 fi1)))
      clear b2 r2 hw2 hq7 hbw hqc hi0 hi1 fi0 fi1 hta hqa hqi hr hql ht hd hil hR hM hz0 hz1 R nk1 nk2
      have nk1 := NK.out.1
      have nk2 := NK.out.2
      by_cases e : a = s
      · have D : Hid (decide (a = s) = true) := by show _ = _; simp [e]
        have E := Lib.hid e
        clear e
        go_wp2_with fail
        rw [← HW2.out, ← HQ7.out]
        refine C.out.mono ?_
        rintro e w3 ⟨rfl, hb3⟩
        rw [D.out]
        have B3 : Hid (Below wr.heap.size wr w3) := B2.out.trans (hb3.mono B2.out.size)
        clear hb3
        go_wp2_with fail
        go_roundg (n - (j + 1))
        case measure => have := HR.out; omega
        case rel =>
          have st := stay_take (s := s) TA.out
          rw [if_pos E.out] at st
          refine ⟨j + 1, i, qs, by omega, rfl, by go_num, by omega, QL.out, by rw [st]; exact HT.out, ?_, by rw [st]; exact IL.out, RR.out.mods (S := fun _ => False) (Mods.of_below B3.out) (fun _ _ => id), MM.out.trans (T := fun _ => False) (Mods.of_below B3.out) (fun _ h => .inl (by cases h))⟩
          have := congrArg (List.drop 1) HD.out
          rwa [List.drop_drop, List.drop_drop] at this
      · have D : Hid (decide (a = s) = false) := by show _ = _; simp [e]
        have E := Lib.hid e
        clear e
        go_wp2_with fail
        rw [← HW2.out, ← HQ7.out]
        refine C.out.mono ?_
        rintro e w3 ⟨rfl, hb3⟩
        rw [D.out]
        have B3 : Hid (Below wr.heap.size wr w3) := B2.out.trans (hb3.mono B2.out.size)
        have r3 : w3.heap[q7]? = some (.cells #[.int .u32 a, tv vb] 100 (0, 0)) := (hb3.block q7 (Array.getElem?_eq_some_iff.1 R2.out).1).trans R2.out
        have g0 : w3.cell? ⟨q7, 0, none⟩ = some (.int .u32 a) := by rw [cell_of_row _ _ _ _ _ _ r3]; rfl
        have g1 : w3.cell? ⟨q7, 1, none⟩ = some (tv vb) := by rw [cell_of_row _ _ _ _ _ _ r3]; rfl
        have i0 : w3.cell? ⟨b, o + i * 2, none⟩ = some (.int .u32 a') := (B3.out.cell (p := ⟨b, o + i * 2, none⟩) BW.out).trans CI.out.1
        have i1 : w3.cell? ⟨b, o + i * 2 + 1, none⟩ = some (tv vb') := (B3.out.cell (p := ⟨b, o + i * 2 + 1, none⟩) BW.out).trans CI.out.2.1
        have R3 := RR.out.mods (S := fun _ => False) (Mods.of_below B3.out) (fun _ _ => id)
        have PF : Hid (w3.frozen? ⟨b, o + i * 2, none⟩ = false ∧ w3.frozen? ⟨b, o + i * 2 + 1, none⟩ = false) := by
          have hh := B3.out.block b BW.out
          refine ⟨?_, ?_⟩
          · have := CI.out.2.2.1; simp only [World.frozen?] at this ⊢; rw [hh]; exact this
          · have := CI.out.2.2.2; simp only [World.frozen?] at this ⊢; rw [hh]; exact this
        have z0 := PF.out.1
        have z1 := PF.out.2
        have FIN : Hid (Rw ((w3.setCell ⟨b, o + i * 2, none⟩ (.int .u32 a)).setCell ⟨b, o + i * 2 + 1, none⟩ (tv vb)) 100 2 (.slice (some ⟨b, o, none⟩) n k) n (fl (qs.set i (a, y, vb)))) := Rw.put2 R3 rfl i a y vb QL.out (by have := IJ.out; omega)
        have MF : Hid (Mods (fun j => j = b) w ((w3.setCell ⟨b, o + i * 2, none⟩ (.int .u32 a)).setCell ⟨b, o + i * 2 + 1, none⟩ (tv vb))) :=
          ((MM.out.trans (T := fun _ => False) (Mods.of_below B3.out) (fun _ h => .inl (by cases h))).trans (Mods.set (S := fun j => j = b) w3 ⟨b, o + i * 2, none⟩ _ rfl) (fun _ h => .inl h)).trans (Mods.set (S := fun j => j = b) _ ⟨b, o + i * 2 + 1, none⟩ _ rfl) (fun _ h => .inl h)
        clear hb3 r3 R3
        go_wp2_with fail
        go_roundg (n - (j + 1))
        case measure => have := HR.out; omega
        case rel =>
          have st := stay_take (s := s) TA.out
          rw [if_neg E.out] at st
          have hin : i < qs.length := by have := QL.out; have := IJ.out; omega
          refine ⟨j + 1, i + 1, qs.set i (a, y, vb), by omega, by go_num, by go_num, by have := IJ.out; omega, by rw [List.length_set]; exact QL.out, ?_, ?_, by rw [st, List.length_append, ← IL.out]; rfl, FIN.out, MF.out⟩
          · rw [st, List.take_succ_eq_append_getElem (by rw [List.length_set]; exact hin), List.take_set_of_le (Nat.le_refl i), HT.out, List.getElem_set_self]
          · rw [List.drop_set_of_lt (by have := IJ.out; omega)]
            have := congrArg (List.drop 1) HD.out
            rwa [List.drop_drop, List.drop_drop] at this
    · have hjn2 : j = n := by have := HR.out; omega
      have st : stay s ts = stay s (ts.take j) := by rw [List.take_of_length_le (by have := HN.out; omega)]
      have hin : i < n := by have := IJ.out; omega
      have hrow : ∃ cs, wr.heap[b]? = some (.cells cs 100 (0, 0)) ∧ o + n * 2 ≤ cs.size := by
        rcases hR.2.2 with ⟨h1, _⟩ | ⟨b', o', cap, cs, h1, hg, h2, h3, _⟩
        · simp at h1
        · simp only [Value.slice.injEq, Option.some.injEq, Addr.mk.injEq] at h1
          obtain ⟨⟨rfl, rfl, _⟩, _, rfl⟩ := h1
          have : n * 2 ≤ k * 2 := by omega
          exact ⟨cs, hg, by omega⟩
      obtain ⟨cs, hg, hsz⟩ := hrow
      have CL : ∀ ty, (Builtin.clear_ #[91] ty #[.slice (some ⟨b, o + i * 2, none⟩) (n - i) (k - i)]).run Tryd.prog wr = .ok (.tuple #[]) (wr.setCells b (o + i * 2) (zl (n - i))) := fun ty =>
        clear49 wr ty b (o + i * 2) (n - i) (k - i) (by omega)
          (fun j hj => by rw [cell_of_row _ _ _ _ _ _ hg, Array.getElem?_eq_getElem (by omega)]; rfl) (fun j hj => by simp [World.frozen?, hg])
      have S1 := hR.shrink i (by omega) hql
      have FIN : Hid (Rw (wr.setCells b (o + i * 2) (zl (n - i))) 100 2 (.slice (some ⟨b, o, none⟩) i k) i (fl (stay s ts))) := by
        rw [ht, ← st] at S1
        exact S1.sets rfl (.inr (Nat.le_refl _))
      have MF : Hid (Mods (fun j => j = b) w (wr.setCells b (o + i * 2) (zl (n - i)))) := hM.trans (Mods.sets (S := fun j => j = b) b rfl _ _ _) (fun _ h => .inl h)
      have HI : Hid (i = (stay s ts).length) := by show _ = _; rw [st]; exact hil
      have hile : i ≤ n := by omega
      clear hR hM hql ht hd hil S1 hg hsz hr hij st hjn2
      generalize wr.setCells b (o + i * 2) (zl (n - i)) = wz at *
      have nk1 := NK.out.1
      have nk2 := NK.out.2
      have hik : i ≤ k := by omega
      go_wp2_with fail
      go_ret
      exact ⟨i, rfl, HI.out, FIN.out, MF.out.mono (fun j hj => .inl (by rw [hj]; rfl))⟩
end Go.Proofs.YtjdamlmoegippaaDoor.dk
