/-
  Contracts of package bits: New; Hold and Drop in all cases. Condition: the row lies in memory as a size, a map and words.
-/
import Derived.Test.YtjdamlmoegippaaDoorDkB
namespace Go.Proofs.YtjdamlmoegippaaDoor.dk
open Go.RowKit
theorem info107 : (Tryd.prog.info? 113).map (fun i => (i.zero, i.size, i.bytes)) = some (some (.int .u64 0), 1, 8) := by kernel_rfl
theorem make80 (w : World) (n : Nat) (hn : n ≤ 65536) : (Instr.makeSlice 110 (.int .i64 n) (.int .i64 n)).run Tryd.prog w = .ok (.slice (some ⟨w.heap.size, 0, none⟩) n n) (w.alloc (.cells (Array.replicate n (.int .u64 0)) 113)) := by
  obtain ⟨i, hi, hz0, hz1, hz2⟩ := info_parts info107
  have h := run_make (P := Tryd.prog) w 110 113 i (.int .u64 0) Tryd.underlying110 hi hz0 .i64 .i64 n n (by omega) (by omega) (by rw [hz2]; omega) (by omega)
  simp only [Int.toNat_natCast] at h
  rw [h]
  have hm : madeCells (Value.int .u64 0).cells (n * i.size) = Array.replicate n (.int .u64 0) := by
    rw [hz1, Nat.mul_one]
    unfold madeCells
    apply Array.ext
    · simp
    · intro j h1 h2; simp [Value.cells, Nat.mod_one]
  rw [hm]
/-- A new row. -/
def NewP (w : World) (N : Nat) (e : Ending) (w' : World) : Prop :=
  ∃ g mb wb, e = .returned (.tuple #[.pointer (some ⟨g, 0, none⟩), .int .i64 0]) ∧ BR w' g N mb wb (fun _ => 0) ∧ w.heap.size ≤ g ∧ w.heap.size ≤ mb ∧ w.heap.size ≤ wb ∧ Below w.heap.size w w'
theorem newB_rows (w : World) (N : Nat) (h1 : 1 ≤ N) (h2 : N ≤ 65536) :
    BR (((w.alloc (.map #[] 0)).alloc (.cells (Array.replicate ((N + 63) / 64) (.int .u64 0)) 113)).alloc (.cells #[.int .i64 N, .map (some w.heap.size), .slice (some ⟨w.heap.size + 1, 0, none⟩) ((N + 63) / 64 : Nat) ((N + 63) / 64 : Nat)] 112)) (w.heap.size + 2) N w.heap.size (w.heap.size + 1) (fun _ => 0) := by
  have e0 : ((w.alloc (.map #[] 0))).heap[w.heap.size]? = some (.map #[] 0) := heap_alloc_new _ _
  refine ⟨h1, h2, ?_, ?_, ?_, fun _ _ => rfl, fun _ => by omega⟩
  · have := heap_alloc_new ((w.alloc (.map #[] 0)).alloc (.cells (Array.replicate ((N + 63) / 64) (.int .u64 0)) 113)) (.cells #[.int .i64 N, .map (some w.heap.size), .slice (some ⟨w.heap.size + 1, 0, none⟩) ((N + 63) / 64 : Nat) ((N + 63) / 64 : Nat)] 112)
    simpa using this
  · rw [cnt_zero, bf_zero]
    refine (MapV.made w Tryd.prog 3).mods (S := fun _ => False) ((Mods.alloc _ _).trans (Mods.alloc (S := fun _ => False) _ _) (fun _ h => .inl h)) id
  · refine ⟨Array.replicate ((N + 63) / 64) (.int .u64 0), fun _ => 0, ?_, by simp, fun k hk => ⟨by rw [Array.getElem?_replicate, if_pos hk]; rfl, Nat.pos_of_ne_zero (by simp), fun i _ => by simp⟩⟩
    have h3 := (Mods.alloc (S := fun _ => False) ((w.alloc (.map #[] 0)).alloc (.cells (Array.replicate ((N + 63) / 64) (.int .u64 0)) 113)) (.cells #[.int .i64 N, .map (some w.heap.size), .slice (some ⟨w.heap.size + 1, 0, none⟩) ((N + 63) / 64 : Nat) ((N + 63) / 64 : Nat)] 112)).block (w.heap.size + 1) (by simp) id
    rw [h3]
    have := heap_alloc_new (w.alloc (.map #[] 0)) (.cells (Array.replicate ((N + 63) / 64) (.int .u64 0)) 113)
    simpa using this
set_option maxRecDepth 100000 in
set_option maxHeartbeats 400000 in
theorem newB (N : Nat) (h1 : 1 ≤ N) (h2 : N ≤ 65536) (w : World) : Calls Tryd.prog 51 #[.int .i64 N] w (NewP w N) := by
  have hB := newB_rows w N h1 h2
  obtain ⟨nw, hnw⟩ : ∃ nw, (N + 63) / 64 = nw := ⟨_, rfl⟩
  rw [hnw] at hB
  have HB := Lib.hid hB
  have hmm := @run_makeMap Tryd.prog
  have hk := make80 (w.alloc (.map #[] 0)) nw (by omega)
  have hq : ((N : Int) + 64 - 1) / 64 = (nw : Int) := by omega
  have hq2 : ((N : Int) + 63) / 64 = (nw : Int) := by omega
  clear hB hnw
  go_enter Tryd.func51, Tryd.ntmps51
  go_wp2_with fail
  go_ret2
  exact ⟨_, _, _, rfl, HB.out, by omega, by omega, by omega, (((Below.refl _ _).alloc (Nat.le_refl _) _).alloc (by simp) _).alloc (by simp; omega) _⟩
/-- What Hold tells, and what it makes. -/
def hC (N : Nat) (f : Nat → Nat) (i : Int) : Int := if i < 0 ∨ (N : Int) ≤ i then 1 else if f i.toNat = 2147483647 then 5 else 0
def hF (N : Nat) (f : Nat → Nat) (i : Int) : Nat → Nat := if i < 0 ∨ (N : Int) ≤ i then f else if f i.toNat = 2147483647 then f else upd f i.toNat (f i.toNat + 1)
theorem dropB_free {w : World} {g N mb wb : Nat} {f : Nat → Nat} (h : BR w g N mb wb f) (i : Nat) (hi : i < N) (hf : f i = 0) : Calls Tryd.prog 35 #[.pointer (some ⟨g, 0, none⟩), .int .i64 i] w fun e w' => e = .returned (.tuple #[.bool false, .int .i64 7]) ∧ w = w' := by
  have n2 := h.n2
  have H := Lib.hid (hasB h i hi)
  have c1 := h.c1
  have hl := h.map.look keyed3 Tryd.underlying109 (zero3 _) (key3 i (by omega) (by omega))
  rw [bf_get, hf] at hl
  clear h hi hf n2
  go_enter Tryd.func35, Tryd.ntmps35
  go_wp2_with (go_at_call 54; refine (H.out).mono ?_; rintro e w' ⟨rfl, rfl⟩)
  go_ret2
  exact ⟨rfl, rfl⟩
set_option maxHeartbeats 1000000 in
theorem dropB_more {w : World} {g N mb wb : Nat} {f : Nat → Nat} (h : BR w g N mb wb f) (i : Nat) (hi : i < N) (hf : 2 ≤ f i) : Calls Tryd.prog 35 #[.pointer (some ⟨g, 0, none⟩), .int .i64 i] w (TurnP w g N mb wb (upd f i (f i - 1)) (.tuple #[.bool false, .int .i64 0])) := by
  have n2 := h.n2
  have hl := h.map.look keyed3 Tryd.underlying109 (zero3 _) (key3 i (by omega) (by omega))
  rw [bf_get] at hl
  have hc := cnt_le f N
  have hfb := h.fb i
  obtain ⟨w1, hs, m1, d1, z1⟩ := h.map.store keyed3 Tryd.underlying109 (by unfold maxLen; omega) (v := .int .i64 ((f i : Int) - 1)) (key3 i (by omega) (by omega))
  have h1g : w1.heap[g]? = w.heap[g]? := d1.block g h.lt h.ne1
  have h1w : w1.heap[wb]? = w.heap[wb]? := d1.block wb h.wds.lt (fun e => h.ne3 e.symm)
  have hB : BR w1 g N mb wb (upd f i (f i - 1)) := by
    refine ⟨h.n1, h.n2, h1g.trans h.row, ?_, ?_, fun j hj => ?_, fun j => ?_⟩
    · have e1 : (if (bf f (.int .i64 i)).isSome then cnt f N else cnt f N + 1) = cnt (upd f i (f i - 1)) N := by
        have := cnt_upd f i (f i - 1) N hi
        rw [bf_some]
        rw [if_neg (by omega), if_neg (by omega)] at this
        rw [if_pos (by simp; omega)]
        omega
      rw [e1, show ((f i : Int) - 1) = ((f i - 1 : Nat) : Int) by omega, bf_upd _ _ _ (by omega)] at m1
      exact m1
    · obtain ⟨cs, wd, a1, a2, a3⟩ := h.wds
      refine ⟨cs, wd, h1w.trans a1, a2, fun k hk => ⟨(a3 k hk).1, (a3 k hk).2.1, fun j hj => ?_⟩⟩
      rw [(a3 k hk).2.2 j hj]
      unfold upd
      by_cases e : 64 * k + j = i
      · rw [if_pos e, e]; simp; omega
      · rw [if_neg e]
    · unfold upd; rw [if_neg (by omega)]; exact h.top j hj
    · unfold upd; split
      · omega
      · exact h.fb j
  have HB := Lib.hid hB
  have HM : Hid (Mods (Bt mb wb) w w1) := d1.mono (fun b hb => .inl (.inl hb))
  have H := Lib.hid h
  have c1 := h.c1
  have hne : ((f i : Int) == 0) = false := by simp; omega
  have hne1 : ((f i : Int) == 1) = false := by simp; omega
  have hge : 2 ≤ (f i : Int) := by omega
  have hle : (f i : Int) ≤ 2147483647 := by omega
  clear h hB d1 m1 z1 h1g h1w hc hf hfb
  go_enter Tryd.func35, Tryd.ntmps35
  go_wp2_with (go_at_call 54; refine (hasB H.out i hi).mono ?_; rintro e w' ⟨rfl, rfl⟩)
  go_ret2
  exact ⟨rfl, HB.out, HM.out⟩
set_option maxRecDepth 100000 in
set_option maxHeartbeats 1000000 in
theorem dropB_one {w : World} {g N mb wb : Nat} {f : Nat → Nat} (h : BR w g N mb wb f) (i : Nat) (hi : i < N) (hf : f i = 1) : Calls Tryd.prog 35 #[.pointer (some ⟨g, 0, none⟩), .int .i64 i] w (TurnP w g N mb wb (upd f i 0) (.tuple #[.bool true, .int .i64 0])) := by
  have n2 := h.n2
  have hl := h.map.look keyed3 Tryd.underlying109 (zero3 _) (key3 i (by omega) (by omega))
  rw [bf_get, hf] at hl
  obtain ⟨w1, hs, m1, d1, z1⟩ := h.map.drop keyed3 Tryd.underlying109 (key3 i (by omega) (by omega))
  have h1g : w1.heap[g]? = w.heap[g]? := d1.block g h.lt h.ne1
  have h1w : w1.heap[wb]? = w.heap[wb]? := d1.block wb h.wds.lt (fun e => h.ne3 e.symm)
  obtain ⟨m, k1, k2, k3, k4, k5⟩ := (h.wds.same h1w).set (i / 64) (by omega)
  have hW := k5 w1 (nots m (2 ^ (i % 64))) (upd f i 0) rfl (nots_lt _ _) (fun j hj => by
    rw [nots_pow_bit _ _ _ hj, k4 j hj]
    unfold upd
    by_cases e : i % 64 = j
    · rw [if_pos (by omega)]; simp [e]
    · rw [if_neg (by omega)]; simp [e]) (upd_off f i _ _ rfl)
  have hB : BR (w1.setCell ⟨wb, i / 64, none⟩ (.int .u64 ((nots m (2 ^ (i % 64)) : Nat) : Int))) g N mb wb (upd f i 0) := by
    refine ⟨h.n1, h.n2, ?_, ?_, hW, fun j hj => ?_, fun j => ?_⟩
    · rw [Below.heap_setCell _ _ _ _ (by exact h.ne2)]
      exact h1g.trans h.row
    · have e1 : (if (bf f (.int .i64 i)).isSome then cnt f N - 1 else cnt f N) = cnt (upd f i 0) N := by
        have := cnt_upd f i 0 N hi
        rw [bf_some, if_pos (by simp [hf])]
        simp [hf] at this
        omega
      rw [e1, bf_del] at m1
      exact m1.same (Below.heap_setCell _ _ _ _ (by exact h.ne3))
    · unfold upd; rw [if_neg (by omega)]; exact h.top j hj
    · unfold upd; split
      · omega
      · exact h.fb j
  have HB := Lib.hid hB
  have HM : Hid (Mods (Bt mb wb) w (w1.setCell ⟨wb, i / 64, none⟩ (.int .u64 ((nots m (2 ^ (i % 64)) : Nat) : Int)))) :=
    (d1.mono (fun b hb => .inl (.inl hb))).trans (Mods.set (S := Bt mb wb) w1 ⟨wb, i / 64, none⟩ _ (.inr rfl)) (fun b hb => .inl hb)
  have H := Lib.hid h
  have c1 := h.c1
  have q1 : w1.cell? ⟨g, 2, none⟩ = some (.slice (some ⟨wb, 0, none⟩) ((N + 63) / 64 : Nat) ((N + 63) / 64 : Nat)) := by rw [cell_of_row _ _ _ _ _ _ (h1g.trans h.row)]; rfl
  have hor := u64_nots m (2 ^ (i % 64))
  obtain ⟨M, hM⟩ : ∃ M : Nat, nots m (2 ^ (i % 64)) = M := ⟨_, rfl⟩
  obtain ⟨d, hdd⟩ : ∃ d : Nat, 2 ^ (i % 64) = d := ⟨_, rfl⟩
  rw [hM] at hor HB HM
  rw [hdd] at hor
  have hd := fun W => digitB i (by omega) W
  rw [hdd] at hd
  have HD := Lib.hid hd
  obtain ⟨nw, hnw⟩ : ∃ nw, (N + 63) / 64 = nw := ⟨_, rfl⟩
  obtain ⟨k, hk⟩ : ∃ k, i / 64 = k := ⟨_, rfl⟩
  have hkn : (k : Int) < (nw : Int) := by omega
  have hwr : IntKind.i64.wrap ((i : Int) / 64) = (k : Int) := by rw [IntWalk.i64_in _ (by omega)]; omega
  rw [hnw] at q1
  rw [hk] at k1 k2 HB HM
  clear h hB hW k5 k4 k3 d1 m1 z1 h1g h1w hd hf hnw hk hM hdd
  go_enter Tryd.func35, Tryd.ntmps35
  go_wp2_with (go_at_call 54; refine (hasB H.out i hi).mono ?_; rintro e w' ⟨rfl, rfl⟩)
  refine wp_region_still_tail 12 (by kernel_rfl) (by kernel_rfl) ?_
  simp only [List.take_succ_cons, List.take_zero, List.drop_succ_cons, List.drop_zero]
  iterate 9 still_step
  still_call (HD.out _)
  iterate 2 still_step
  refine wpStill_nil ?_
  change wpList _ _ _ _ _ w1.drew
  go_wp2_with fail
  go_ret2
  exact ⟨rfl, HB.out.heap rfl, HM.out.alike rfl rfl rfl rfl⟩
def dF (N : Nat) (f : Nat → Nat) (i : Int) : Nat → Nat := if i < 0 ∨ (N : Int) ≤ i then f else if f i.toNat = 0 then f else upd f i.toNat (f i.toNat - 1)
end Go.Proofs.YtjdamlmoegippaaDoor.dk
