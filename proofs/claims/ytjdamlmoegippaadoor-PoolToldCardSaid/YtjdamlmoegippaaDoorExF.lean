/-
  Contract of package bits: Free. Condition: the row lies in memory as a size, a map and words.
-/
import Derived.Test.YtjdamlmoegippaaDoorExB
namespace Go.Proofs.YtjdamlmoegippaaDoor.ex
open Go.RowKit
theorem info107 : (Tryd.prog.info? 113).map (fun i => (i.zero, i.size, i.bytes)) = some (some (.int .u64 0), 1, 8) := by kernel_rfl
theorem make80 (w : World) (n : Nat) (hn : n ≤ 65536) : (Instr.makeSlice 110 (.int .i64 n) (.int .i64 n)).run Tryd.prog w = .ok (.slice (some ⟨w.heap.size, 0, none⟩) n n) (w.alloc (.cells (Array.replicate n (.int .u64 0)) 113)) := by
  obtain ⟨i, hi, hz0, hz1, hz2⟩ := info_parts info107
  have h := run_make (P := Tryd.prog) w 110 113 i (.int .u64 0) Tryd.underlying110 hi hz0 .i64 .i64 n n (by omega) (by omega) (by rw [hz2]; omega) (by omega)
  simp only [Int.toNat_natCast] at h
  rw [h]
  have hm : madeCells (Value.int .u64 0).cells (n * i.size) = Array.replicate n (.int .u64 0) := by
    rw [hz1, Nat.mul_one]
    unfold madeCells
    apply Array.ext
    · simp
    · intro j h1 h2; simp [Value.cells, Nat.mod_one]
  rw [hm]
/-- A new row. -/
def NewP (w : World) (N : Nat) (e : Ending) (w' : World) : Prop :=
  ∃ g mb wb, e = .returned (.tuple #[.pointer (some ⟨g, 0, none⟩), .int .i64 0]) ∧ BR w' g N mb wb (fun _ => 0) ∧ w.heap.size ≤ g ∧ w.heap.size ≤ mb ∧ w.heap.size ≤ wb ∧ Below w.heap.size w w'
theorem newB_rows (w : World) (N : Nat) (h1 : 1 ≤ N) (h2 : N ≤ 65536) :
    BR (((w.alloc (.map #[] 0)).alloc (.cells (Array.replicate ((N + 63) / 64) (.int .u64 0)) 113)).alloc (.cells #[.int .i64 N, .map (some w.heap.size), .slice (some ⟨w.heap.size + 1, 0, none⟩) ((N + 63) / 64 : Nat) ((N + 63) / 64 : Nat)] 112)) (w.heap.size + 2) N w.heap.size (w.heap.size + 1) (fun _ => 0) := by
  have e0 : ((w.alloc (.map #[] 0))).heap[w.heap.size]? = some (.map #[] 0) := heap_alloc_new _ _
  refine ⟨h1, h2, ?_, ?_, ?_, fun _ _ => rfl, fun _ => by omega⟩
  · have := heap_alloc_new ((w.alloc (.map #[] 0)).alloc (.cells (Array.replicate ((N + 63) / 64) (.int .u64 0)) 113)) (.cells #[.int .i64 N, .map (some w.heap.size), .slice (some ⟨w.heap.size + 1, 0, none⟩) ((N + 63) / 64 : Nat) ((N + 63) / 64 : Nat)] 112)
    simpa using this
  · rw [cnt_zero, bf_zero]
    refine (MapV.made w Tryd.prog 3).mods (S := fun _ => False) ((Mods.alloc _ _).trans (Mods.alloc (S := fun _ => False) _ _) (fun _ h => .inl h)) id
  · refine ⟨Array.replicate ((N + 63) / 64) (.int .u64 0), fun _ => 0, ?_, by simp, fun k hk => ⟨by rw [Array.getElem?_replicate, if_pos hk]; rfl, Nat.pos_of_ne_zero (by simp), fun i _ => by simp⟩⟩
    have h3 := (Mods.alloc (S := fun _ => False) ((w.alloc (.map #[] 0)).alloc (.cells (Array.replicate ((N + 63) / 64) (.int .u64 0)) 113)) (.cells #[.int .i64 N, .map (some w.heap.size), .slice (some ⟨w.heap.size + 1, 0, none⟩) ((N + 63) / 64 : Nat) ((N + 63) / 64 : Nat)] 112)).block (w.heap.size + 1) (by simp) id
    rw [h3]
    have := heap_alloc_new (w.alloc (.map #[] 0)) (.cells (Array.replicate ((N + 63) / 64) (.int .u64 0)) 113)
    simpa using this
set_option maxRecDepth 100000 in
set_option maxHeartbeats 400000 in
theorem newB (N : Nat) (h1 : 1 ≤ N) (h2 : N ≤ 65536) (w : World) : Calls Tryd.prog 51 #[.int .i64 N] w (NewP w N) := by
  have hB := newB_rows w N h1 h2
  obtain ⟨nw, hnw⟩ : ∃ nw, (N + 63) / 64 = nw := ⟨_, rfl⟩
  rw [hnw] at hB
  have HB := Lib.hid hB
  have hmm := @run_makeMap Tryd.prog
  have hk := make80 (w.alloc (.map #[] 0)) nw (by omega)
  have hq : ((N : Int) + 64 - 1) / 64 = (nw : Int) := by omega
  have hq2 : ((N : Int) + 63) / 64 = (nw : Int) := by omega
  clear hB hnw
  go_enter Tryd.func51, Tryd.ntmps51
  go_wp2_with fail
  go_ret2
  exact ⟨_, _, _, rfl, HB.out, by omega, by omega, by omega, (((Below.refl _ _).alloc (Nat.le_refl _) _).alloc (by simp) _).alloc (by simp; omega) _⟩
/-- What Hold tells, and what it makes. -/
def hC (N : Nat) (f : Nat → Nat) (i : Int) : Int := if i < 0 ∨ (N : Int) ≤ i then 1 else if f i.toNat = 2147483647 then 5 else 0
def hF (N : Nat) (f : Nat → Nat) (i : Int) : Nat → Nat := if i < 0 ∨ (N : Int) ≤ i then f else if f i.toNat = 2147483647 then f else upd f i.toNat (f i.toNat + 1)
theorem dropB_free {w : World} {g N mb wb : Nat} {f : Nat → Nat} (h : BR w g N mb wb f) (i : Nat) (hi : i < N) (hf : f i = 0) : Calls Tryd.prog 35 #[.pointer (some ⟨g, 0, none⟩), .int .i64 i] w fun e w' => e = .returned (.tuple #[.bool false, .int .i64 7]) ∧ w = w' := by
  have n2 := h.n2
  have H := Lib.hid (hasB h i hi)
  have c1 := h.c1
  have hl := h.map.look keyed3 Tryd.underlying109 (zero3 _) (key3 i (by omega) (by omega))
  rw [bf_get, hf] at hl
  clear h hi hf n2
  go_enter Tryd.func35, Tryd.ntmps35
  go_wp2_with (go_at_call 54; refine (H.out).mono ?_; rintro e w' ⟨rfl, rfl⟩)
  go_ret2
  exact ⟨rfl, rfl⟩
set_option maxHeartbeats 1000000 in
theorem dropB_more {w : World} {g N mb wb : Nat} {f : Nat → Nat} (h : BR w g N mb wb f) (i : Nat) (hi : i < N) (hf : 2 ≤ f i) : Calls Tryd.prog 35 #[.pointer (some ⟨g, 0, none⟩), .int .i64 i] w (TurnP w g N mb wb (upd f i (f i - 1)) (.tuple #[.bool false, .int .i64 0])) := by
  have n2 := h.n2
  have hl := h.map.look keyed3 Tryd.underlying109 (zero3 _) (key3 i (by omega) (by omega))
  rw [bf_get] at hl
  have hc := cnt_le f N
  have hfb := h.fb i
  obtain ⟨w1, hs, m1, d1, z1⟩ := h.map.store keyed3 Tryd.underlying109 (by unfold maxLen; omega) (v := .int .i64 ((f i : Int) - 1)) (key3 i (by omega) (by omega))
  have h1g : w1.heap[g]? = w.heap[g]? := d1.block g h.lt h.ne1
  have h1w : w1.heap[wb]? = w.heap[wb]? := d1.block wb h.wds.lt (fun e => h.ne3 e.symm)
  have hB : BR w1 g N mb wb (upd f i (f i - 1)) := by
    refine ⟨h.n1, h.n2, h1g.trans h.row, ?_, ?_, fun j hj => ?_, fun j => ?_⟩
    · have e1 : (if (bf f (.int .i64 i)).isSome then cnt f N else cnt f N + 1) = cnt (upd f i (f i - 1)) N := by
        have := cnt_upd f i (f i - 1) N hi
        rw [bf_some]
        rw [if_neg (by omega), if_neg (by omega)] at this
        rw [if_pos (by simp; omega)]
        omega
      rw [e1, show ((f i : Int) - 1) = ((f i - 1 : Nat) : Int) by omega, bf_upd _ _ _ (by omega)] at m1
      exact m1
    · obtain ⟨cs, wd, a1, a2, a3⟩ := h.wds
      refine ⟨cs, wd, h1w.trans a1, a2, fun k hk => ⟨(a3 k hk).1, (a3 k hk).2.1, fun j hj => ?_⟩⟩
      rw [(a3 k hk).2.2 j hj]
      unfold upd
      by_cases e : 64 * k + j = i
      · rw [if_pos e, e]; simp; omega
      · rw [if_neg e]
    · unfold upd; rw [if_neg (by omega)]; exact h.top j hj
    · unfold upd; split
      · omega
      · exact h.fb j
  have HB := Lib.hid hB
  have HM : Hid (Mods (Bt mb wb) w w1) := d1.mono (fun b hb => .inl (.inl hb))
  have H := Lib.hid h
  have c1 := h.c1
  have hne : ((f i : Int) == 0) = false := by simp; omega
  have hne1 : ((f i : Int) == 1) = false := by simp; omega
  have hge : 2 ≤ (f i : Int) := by omega
  have hle : (f i : Int) ≤ 2147483647 := by omega
  clear h hB d1 m1 z1 h1g h1w hc hf hfb
  go_enter Tryd.func35, Tryd.ntmps35
  go_wp2_with (go_at_call 54; refine (hasB H.out i hi).mono ?_; rintro e w' ⟨rfl, rfl⟩)
  go_ret2
  exact ⟨rfl, HB.out, HM.out⟩
set_option maxRecDepth 100000 in
set_option maxHeartbeats 1000000 in
theorem dropB_one {w : World} {g N mb wb : Nat} {f : Nat → Nat} (h : BR w g N mb wb f) (i : Nat) (hi : i < N) (hf : f i = 1) : Calls Tryd.prog 35 #[.pointer (some ⟨g, 0, none⟩), .int .i64 i] w (TurnP w g N mb wb (upd f i 0) (.tuple #[.bool true, .int .i64 0])) := by
  have n2 := h.n2
  have hl := h.map.look keyed3 Tryd.underlying109 (zero3 _) (key3 i (by omega) (by omega))
  rw [bf_get, hf] at hl
  obtain ⟨w1, hs, m1, d1, z1⟩ := h.map.drop keyed3 Tryd.underlying109 (key3 i (by omega) (by omega))
  have h1g : w1.heap[g]? = w.heap[g]? := d1.block g h.lt h.ne1
  have h1w : w1.heap[wb]? = w.heap[wb]? := d1.block wb h.wds.lt (fun e => h.ne3 e.symm)
  obtain ⟨m, k1, k2, k3, k4, k5⟩ := (h.wds.same h1w).set (i / 64) (by omega)
  have hW := k5 w1 (nots m (2 ^ (i % 64))) (upd f i 0) rfl (nots_lt _ _) (fun j hj => by
    rw [nots_pow_bit _ _ _ hj, k4 j hj]
    unfold upd
    by_cases e : i % 64 = j
    · rw [if_pos (by omega)]; simp [e]
    · rw [if_neg (by omega)]; simp [e]) (upd_off f i _ _ rfl)
  have hB : BR (w1.setCell ⟨wb, i / 64, none⟩ (.int .u64 ((nots m (2 ^ (i % 64)) : Nat) : Int))) g N mb wb (upd f i 0) := by
    refine ⟨h.n1, h.n2, ?_, ?_, hW, fun j hj => ?_, fun j => ?_⟩
    · rw [Below.heap_setCell _ _ _ _ (by exact h.ne2)]
      exact h1g.trans h.row
    · have e1 : (if (bf f (.int .i64 i)).isSome then cnt f N - 1 else cnt f N) = cnt (upd f i 0) N := by
        have := cnt_upd f i 0 N hi
        rw [bf_some, if_pos (by simp [hf])]
        simp [hf] at this
        omega
      rw [e1, bf_del] at m1
      exact m1.same (Below.heap_setCell _ _ _ _ (by exact h.ne3))
    · unfold upd; rw [if_neg (by omega)]; exact h.top j hj
    · unfold upd; split
      · omega
      · exact h.fb j
  have HB := Lib.hid hB
  have HM : Hid (Mods (Bt mb wb) w (w1.setCell ⟨wb, i / 64, none⟩ (.int .u64 ((nots m (2 ^ (i % 64)) : Nat) : Int)))) :=
    (d1.mono (fun b hb => .inl (.inl hb))).trans (Mods.set (S := Bt mb wb) w1 ⟨wb, i / 64, none⟩ _ (.inr rfl)) (fun b hb => .inl hb)
  have H := Lib.hid h
  have c1 := h.c1
  have q1 : w1.cell? ⟨g, 2, none⟩ = some (.slice (some ⟨wb, 0, none⟩) ((N + 63) / 64 : Nat) ((N + 63) / 64 : Nat)) := by rw [cell_of_row _ _ _ _ _ _ (h1g.trans h.row)]; rfl
  have hor := u64_nots m (2 ^ (i % 64))
  obtain ⟨M, hM⟩ : ∃ M : Nat, nots m (2 ^ (i % 64)) = M := ⟨_, rfl⟩
  obtain ⟨d, hdd⟩ : ∃ d : Nat, 2 ^ (i % 64) = d := ⟨_, rfl⟩
  rw [hM] at hor HB HM
  rw [hdd] at hor
  have hd := fun W => digitB i (by omega) W
  rw [hdd] at hd
  have HD := Lib.hid hd
  obtain ⟨nw, hnw⟩ : ∃ nw, (N + 63) / 64 = nw := ⟨_, rfl⟩
  obtain ⟨k, hk⟩ : ∃ k, i / 64 = k := ⟨_, rfl⟩
  have hkn : (k : Int) < (nw : Int) := by omega
  have hwr : IntKind.i64.wrap ((i : Int) / 64) = (k : Int) := by rw [IntWalk.i64_in _ (by omega)]; omega
  rw [hnw] at q1
  rw [hk] at k1 k2 HB HM
  clear h hB hW k5 k4 k3 d1 m1 z1 h1g h1w hd hf hnw hk hM hdd
  go_enter Tryd.func35, Tryd.ntmps35
  go_wp2_with (go_at_call 54; refine (hasB H.out i hi).mono ?_; rintro e w' ⟨rfl, rfl⟩)
  refine wp_region_still_tail 12 (by kernel_rfl) (by kernel_rfl) ?_
  simp only [List.take_succ_cons, List.take_zero, List.drop_succ_cons, List.drop_zero]
  iterate 9 still_step
  still_call (HD.out _)
  iterate 2 still_step
  refine wpStill_nil ?_
  change wpList _ _ _ _ _ w1.drew
  go_wp2_with fail
  go_ret2
  exact ⟨rfl, HB.out.heap rfl, HM.out.alike rfl rfl rfl rfl⟩
def dF (N : Nat) (f : Nat → Nat) (i : Int) : Nat → Nat := if i < 0 ∨ (N : Int) ≤ i then f else if f i.toNat = 0 then f else upd f i.toNat (f i.toNat - 1)
end Go.Proofs.YtjdamlmoegippaaDoor.ex
namespace Go.Proofs.YtjdamlmoegippaaDoor.ex
open Go.RowKit
/-- What Free tells. -/
def FreeO (N : Nat) (f : Nat → Nat) (i : Int) (p : Int) (b : Bool) : Prop :=
  (b = true ∧ ∃ q : Nat, p = q ∧ i ≤ q ∧ q < N ∧ f q = 0 ∧ ∀ j : Nat, i ≤ j → j < q → f j ≠ 0) ∨ (b = false ∧ p = 0 ∧ ∀ j : Nat, i ≤ j → j < N → f j ≠ 0)
theorem FreeO.one {N : Nat} {f : Nat → Nat} {i p p' : Int} {b b' : Bool} (h : FreeO N f i p b) (h' : FreeO N f i p' b') : p = p' ∧ b = b' := by
  rcases h with ⟨rfl, q, rfl, h1, h2, h3, h4⟩ | ⟨rfl, rfl, h4⟩ <;> rcases h' with ⟨rfl, q', rfl, k1, k2, k3, k4⟩ | ⟨rfl, rfl, k4⟩
  · refine ⟨?_, rfl⟩
    rcases Nat.lt_trichotomy q q' with e | e | e
    · exact absurd h3 (k4 q h1 e)
    · rw [e]
    · exact absurd k3 (h4 q' k1 e)
  · exact absurd h3 (k4 q h1 h2)
  · exact absurd k3 (h4 q' k1 k2)
  · exact ⟨rfl, rfl⟩
theorem FreeO.max {N : Nat} {f : Nat → Nat} {i : Int} {n : Nat} {p : Int} {b : Bool} (h : FreeO N f (n : Int) p b) (hn : (n : Int) = max i 0) : FreeO N f i p b := by
  rcases h with ⟨rfl, q, rfl, h1, h2, h3, h4⟩ | ⟨rfl, rfl, h4⟩
  · exact .inl ⟨rfl, q, rfl, by omega, h2, h3, fun j hj => h4 j (by omega)⟩
  · exact .inr ⟨rfl, rfl, fun j hj => h4 j (by omega)⟩
def FreeP (N : Nat) (f : Nat → Nat) (i : Int) (w : World) (e : Ending) (w' : World) : Prop := ∃ (p : Int) (b : Bool), e = .returned (.tuple #[.int .i64 p, .bool b]) ∧ FreeO N f i p b ∧ w = w'
/-- A word, and its digits. -/
theorem BR.word {w : World} {g N mb wb : Nat} {f : Nat → Nat} (h : BR w g N mb wb f) (i : Nat) (hi : i < N) :
    ∃ m : Nat, w.cell? ⟨wb, i / 64, none⟩ = some (.int .u64 m) ∧ m < 2 ^ 64 ∧ ∀ j, j / 64 = i / 64 → m.testBit (j % 64) = decide (f j ≠ 0) := by
  obtain ⟨m, k1, k2, k3, k4, _⟩ := h.wds.set (i / 64) (by omega)
  refine ⟨m, k1, k3, fun j hj => ?_⟩
  rw [k4 (j % 64) (by omega)]
  congr 3
  have : 64 * (i / 64) + j % 64 = j := by omega
  rw [this]
set_option maxRecDepth 100000 in
set_option maxHeartbeats 2000000 in
theorem freeB_at {w : World} {g N mb wb : Nat} {f : Nat → Nat} (h : BR w g N mb wb f) (i0 : Int) (s : Nat) (hs : (i0 < 0 ∧ s = 0) ∨ i0 = s) :
    Calls Tryd.prog 42 #[.pointer (some ⟨g, 0, none⟩), .int .i64 i0] w (FreeP N f s w) := by
  have n2 := h.n2
  have H := Lib.hid h
  have c0 := h.c0
  have c2 := h.c2
  obtain ⟨nw, hnw⟩ : ∃ nw, (N + 63) / 64 = nw := ⟨_, rfl⟩
  rw [hnw] at c2
  have hn1 : nw * 64 ≤ N + 63 := by omega
  have hn2 : N ≤ nw * 64 := by omega
  clear h hnw
  rcases hs with ⟨h1, h2⟩ | rfl
  case' inl => have HS := Lib.hid h2; clear h2
  all_goals
    go_enter Tryd.func42, Tryd.ntmps42
    go_wp2_with fail
    go_step3
    go_wp2_with fail
    go_step3
    go_wp2_with fail
    go_loopg [6, 7, 8, 9, 10] (N - s) (fun r v6 v7 vi _ _ wr => ∃ i : Nat, r = N - i ∧ s ≤ i ∧ v6 = .int .i64 0 ∧ v7 = .bool false ∧ vi = .int .i64 i ∧ w = wr ∧ ∀ j : Nat, s ≤ j → j < i → j < N → f j ≠ 0)
    case atStart => first
      | exact ⟨s, rfl, Nat.le_refl _, rfl, rfl, rfl, rfl, fun j h1 h2 => by omega⟩
      | exact ⟨0, (by rw [HS.out]), (by rw [HS.out]; exact Nat.le_refl _), rfl, rfl, rfl, rfl, fun j h1 h2 => by omega⟩
    case round =>
      obtain ⟨i, hr, hsi, rfl, rfl, rfl, rfl, hno⟩ := hrel
      have HNO := Lib.hid hno
      have HR := Lib.hid hr
      clear hno hr
      by_cases hlt : i < N
      · obtain ⟨m, k1, k3, k4⟩ := H.out.word i hlt
        have K4 := Lib.hid k4
        clear k4
        by_cases hm : m = 18446744073709551615
        · have hful := (full_bit m k3).1 hm
          have HF := Lib.hid hful
          have hmq : ((m : Int) == 18446744073709551615) = true := by simp; omega
          clear hm hful k3
          go_wp2_with (go_at_call 49; refine (sizeB H.out).mono ?_; rintro e w' ⟨rfl, rfl⟩)
          go_roundg (N - (i / 64 + 1) * 64)
          case measure => have := HR.out; omega
          case rel => exact ⟨(i / 64 + 1) * 64, rfl, by omega, rfl, rfl, by go_num, rfl, fun j h1 h2 h3 => by
            by_cases hj : j < i
            · exact HNO.out j h1 hj h3
            · have e := K4.out j (by omega)
              rw [HF.out _ (by omega)] at e
              exact of_decide_eq_true e.symm⟩
        · have hmq : ((m : Int) == 18446744073709551615) = false := by simp; omega
          have K3 := Lib.hid k3
          clear hm k3
          obtain ⟨B, hB⟩ : ∃ B : Nat, B = min ((i / 64 + 1) * 64) N := ⟨_, rfl⟩
          have hiB : i < B := by omega
          have hBN : B ≤ N := by omega
          have hBW : B ≤ (i / 64 + 1) * 64 := by omega
          by_cases hNB : (N : Int) < ((i : Int) / 64 + 1) * 64
          case' pos => have HB : Hid (B = N) := by show B = N; omega
          case' neg => have HB : Hid (B = (i / 64 + 1) * 64) := by show B = (i / 64 + 1) * 64; omega
          all_goals
            clear hB
            go_wp2_with (go_at_call 49; refine (sizeB H.out).mono ?_; rintro e w' ⟨rfl, rfl⟩)
            go_loopg [6, 7, 10] (B - i) (fun r v6 v7 va wr => ∃ q : Nat, r = B - q ∧ i ≤ q ∧ q ≤ B ∧ v6 = .int .i64 0 ∧ v7 = .bool false ∧ va = .int .i64 q ∧ w = wr ∧ ∀ j : Nat, i ≤ j → j < q → f j ≠ 0)
            case atStart => exact ⟨i, rfl, Nat.le_refl _, by omega, rfl, rfl, rfl, rfl, fun j h1 h2 => by omega⟩
            case round =>
              obtain ⟨q, hr, hiq, hqB, rfl, rfl, rfl, rfl, hq⟩ := hrel
              have HQ := Lib.hid hq
              have HR2 := Lib.hid hr
              clear hq hr
              by_cases hlt2 : q < B
              · have hqN : q < N := by omega
                have hqW : (q : Int) < ((i : Int) / 64 + 1) * 64 := by omega
                obtain ⟨d, hd⟩ : ∃ d : Nat, 2 ^ (q % 64) = d := ⟨_, rfl⟩
                have HD := fun W => digitB q (by omega) W
                have hand := u64_and m d K3.out (by rw [← hd]; exact pow_lt _ (by omega))
                rw [hd] at HD
                have HD' := Lib.hid HD
                have hz := and_pow m (q % 64)
                rw [K4.out q (by omega), hd] at hz
                obtain ⟨A, hA⟩ : ∃ A : Nat, m &&& d = A := ⟨_, rfl⟩
                rw [hA] at hand hz
                clear HD hA hd
                by_cases hf : f q = 0
                · have hA0 : A = 0 := hz.2 (by simp [hf])
                  have hat : ((A : Int) == 0) = true := by simp [hA0]
                  have HF := Lib.hid hf
                  clear hz hA0 hf
                  go_wp2_with (go_at_call 55; refine (HD'.out _).mono ?_; rintro e w' ⟨rfl, rfl⟩)
                  rw [Exit.noGoto_ret]
                  go_ret2
                  exact ⟨q, true, rfl, .inl ⟨rfl, q, rfl, by omega, by omega, HF.out, fun j h1 h2 => by
                    by_cases hj : j < i
                    · exact HNO.out j (by omega) hj (by omega)
                    · exact HQ.out j (by omega) h2⟩, rfl⟩
                · have hA0 : ¬ A = 0 := fun e => by have := hz.1 e; simp at this; exact hf this
                  have hat : ((A : Int) == 0) = false := by simp; omega
                  have HF := Lib.hid hf
                  clear hz hA0 hf
                  go_wp2_with (go_at_call 55; refine (HD'.out _).mono ?_; rintro e w' ⟨rfl, rfl⟩)
                  go_roundg (B - (q + 1))
                  case measure => have := HR2.out; omega
                  case rel => exact ⟨q + 1, rfl, by omega, by omega, rfl, rfl, by go_num, rfl, fun j h1 h2 => by
                    by_cases hj : j < q
                    · exact HQ.out j h1 hj
                    · have : j = q := by omega
                      rw [this]; exact HF.out⟩
              · have hqe : q = B := by omega
                have e1 := HB.out
                have hqN : ¬ (q : Int) < B := by omega
                go_wp2_with fail
                go_roundg (N - (i / 64 + 1) * 64)
                case measure => have := HR.out; omega
                case rel => exact ⟨(i / 64 + 1) * 64, rfl, by omega, rfl, rfl, by go_num, rfl, fun j h1 h2 h3 => by
                  by_cases hj : j < i
                  · exact HNO.out j h1 hj h3
                  · exact HQ.out j (by omega) (by omega)⟩
      · go_wp2_with (go_at_call 49; refine (sizeB H.out).mono ?_; rintro e w' ⟨rfl, rfl⟩)
        rw [Exit.noGoto_ret]
        go_ret2
        exact ⟨0, false, rfl, .inr ⟨rfl, rfl, fun j h1 h2 => HNO.out j (by omega) (by omega) h2⟩, rfl⟩
theorem freeB {w : World} {g N mb wb : Nat} {f : Nat → Nat} (h : BR w g N mb wb f) (i : Int) :
    Calls Tryd.prog 42 #[.pointer (some ⟨g, 0, none⟩), .int .i64 i] w (FreeP N f i w) :=
  (freeB_at h i i.toNat (by omega)).mono fun e w' ⟨p, b, he, hf, hw⟩ => ⟨p, b, he, hf.max (by omega), hw⟩
/-- A row that no call made. -/
structure UR (w : World) (g : Nat) : Prop where
  row : w.heap[g]? = some (.cells #[.int .i64 0, .map none, .slice none 0 0] 112 (0, 0))
section
variable {w w' : World} {g : Nat}
theorem UR.lt (h : UR w g) : g < w.heap.size := (Array.getElem?_eq_some_iff.1 h.row).1
theorem UR.below (h : UR w g) (hb : Below w.heap.size w w') : UR w' g := ⟨(hb.block g h.lt).trans h.row⟩
theorem UR.c0 (h : UR w g) : w.cell? ⟨g, 0, none⟩ = some (.int .i64 0) := by rw [cell_of_row _ _ _ _ _ _ h.row]; rfl
theorem UR.c1 (h : UR w g) : w.cell? ⟨g, 1, none⟩ = some (.map none) := by rw [cell_of_row _ _ _ _ _ _ h.row]; rfl
end
end Go.Proofs.YtjdamlmoegippaaDoor.ex
