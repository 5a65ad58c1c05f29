/-
  Contracts of package bits: New, Size, Taken, Times, has, digit, Hold, Drop. Condition: the row lies in memory as a size, a map and words.
-/
import Derived.Test.YtjdamlmoegippaaDoorExA
import Derived.StillTailTactics
import Derived.Deep.QuietTactic
import Derived.BigQuiet
import Derived.Deep.RegionLaw
import Derived.LoopTactic
import Derived.Deep.LoopGhost
import Derived.Outline
import Derived.IntWalk
namespace Go.Proofs.YtjdamlmoegippaaDoor.ex
open Go.RowKit
/-- How often places are held, turned at one. -/
def upd (f : Nat → Nat) (i v : Nat) : Nat → Nat := fun j => if j = i then v else f j
/-- How many are held. -/
def cnt (f : Nat → Nat) : Nat → Nat
  | 0 => 0
  | n + 1 => cnt f n + if f n = 0 then 0 else 1
theorem cnt_le (f : Nat → Nat) (N : Nat) : cnt f N ≤ N := by
  induction N with
  | zero => exact Nat.le_refl _
  | succ n ih => unfold cnt; split <;> omega
theorem cnt_same {f h : Nat → Nat} (N : Nat) (e : ∀ i, i < N → (f i = 0 ↔ h i = 0)) : cnt f N = cnt h N := by
  induction N with
  | zero => rfl
  | succ n ih => unfold cnt; rw [ih (fun i hi => e i (by omega))]; simp only [e n (by omega)]
theorem cnt_upd (f : Nat → Nat) (i v N : Nat) (h : i < N) : cnt (upd f i v) N + (if f i = 0 then 0 else 1) = cnt f N + (if v = 0 then 0 else 1) := by
  induction N with
  | zero => omega
  | succ n ih =>
    unfold cnt
    by_cases hi : i = n
    · subst hi
      rw [cnt_same (f := upd f i v) (h := f) i (fun j hj => by unfold upd; rw [if_neg (by omega)])]
      have : upd f i v i = v := by unfold upd; rw [if_pos rfl]
      rw [this]
      omega
    · have e : upd f i v n = f n := by unfold upd; rw [if_neg (by omega)]
      rw [e]
      have := ih (by omega)
      omega
theorem cnt_zero (N : Nat) : cnt (fun _ => 0) N = 0 := by
  induction N with
  | zero => rfl
  | succ n ih => unfold cnt; rw [ih]; rfl
/-- What the map of a row has. -/
def bf (f : Nat → Nat) : Lit → Option Value
  | .int .i64 z => if 0 ≤ z ∧ f z.toNat ≠ 0 then some (.int .i64 (f z.toNat)) else none
  | _ => none
theorem bf_zero : bf (fun _ => 0) = fun _ => none := by
  funext l
  unfold bf
  split
  · rw [if_neg (by simp)]
  · rfl
theorem bf_at (f : Nat → Nat) (i : Nat) : bf f (.int .i64 i) = if f i = 0 then none else some (.int .i64 (f i)) := by
  unfold bf
  simp only [Int.toNat_natCast]
  by_cases h : f i = 0
  · rw [if_neg (by simp [h]), if_pos h]
  · rw [if_pos ⟨by omega, h⟩, if_neg h]
theorem bf_get (f : Nat → Nat) (i : Nat) : (bf f (.int .i64 i)).getD (.int .i64 0) = .int .i64 (f i) := by
  rw [bf_at]
  split
  · rename_i h; rw [h]; rfl
  · rfl
theorem bf_some (f : Nat → Nat) (i : Nat) : (bf f (.int .i64 i)).isSome = decide (f i ≠ 0) := by
  rw [bf_at]
  split <;> simp_all
theorem bf_upd (f : Nat → Nat) (i v : Nat) (hv : v ≠ 0) : updL (bf f) (.int .i64 i) (some (.int .i64 v)) = bf (upd f i v) := by
  funext l
  unfold updL
  by_cases h : l = .int .i64 i
  · subst h
    rw [if_pos (by simp [Lit.sameKey]), bf_at]
    have : upd f i v i = v := by unfold upd; rw [if_pos rfl]
    rw [this, if_neg hv]
  · rw [if_neg (by rw [Maps.sameKey_ne h]; simp)]
    unfold bf
    split
    · rename_i z
      by_cases h0 : 0 ≤ z
      · have : upd f i v z.toNat = f z.toNat := by unfold upd; rw [if_neg (fun e => h (by rw [← e]; congr; omega))]
        rw [this]
      · rw [if_neg (by omega), if_neg (by omega)]
    · rfl
theorem bf_del (f : Nat → Nat) (i : Nat) : updL (bf f) (.int .i64 i) none = bf (upd f i 0) := by
  funext l
  unfold updL
  by_cases h : l = .int .i64 i
  · subst h
    rw [if_pos (by simp [Lit.sameKey]), bf_at]
    have : upd f i 0 i = 0 := by unfold upd; rw [if_pos rfl]
    rw [this, if_pos rfl]
  · rw [if_neg (by rw [Maps.sameKey_ne h]; simp)]
    unfold bf
    split
    · rename_i z
      by_cases h0 : 0 ≤ z
      · have : upd f i 0 z.toNat = f z.toNat := by unfold upd; rw [if_neg (fun e => h (by rw [← e]; congr; omega))]
        rw [this]
      · rw [if_neg (by omega), if_neg (by omega)]
    · rfl
/-- The words of a row. -/
def WD (w : World) (wb n : Nat) (f : Nat → Nat) : Prop :=
  ∃ (cs : Array Value) (wd : Nat → Nat), w.heap[wb]? = some (.cells cs 113 (0, 0)) ∧ cs.size = n ∧ ∀ k, k < n → cs[k]? = some (.int .u64 (wd k : Nat)) ∧ wd k < 2 ^ 64 ∧ ∀ i, i < 64 → (wd k).testBit i = decide (f (64 * k + i) ≠ 0)
/-- A row of places in memory, each held as often as f says. -/
structure BR (w : World) (g N mb wb : Nat) (f : Nat → Nat) : Prop where
  n1 : 1 ≤ N
  n2 : N ≤ 65536
  row : w.heap[g]? = some (.cells #[.int .i64 N, .map (some mb), .slice (some ⟨wb, 0, none⟩) ((N + 63) / 64 : Nat) ((N + 63) / 64 : Nat)] 112 (0, 0))
  map : MapV Tryd.prog 3 w mb (cnt f N) (bf f)
  wds : WD w wb ((N + 63) / 64) f
  top : ∀ i, N ≤ i → f i = 0
  fb : ∀ i, f i ≤ 2147483647
theorem WD.same {w w' : World} {wb n : Nat} {f : Nat → Nat} (h : WD w wb n f) (hb : w'.heap[wb]? = w.heap[wb]?) : WD w' wb n f := by
  obtain ⟨cs, wd, h1, r⟩ := h
  exact ⟨cs, wd, hb.trans h1, r⟩
theorem WD.lt {w : World} {wb n : Nat} {f : Nat → Nat} (h : WD w wb n f) : wb < w.heap.size := by
  obtain ⟨cs, wd, h1, _⟩ := h
  exact (Array.getElem?_eq_some_iff.1 h1).1
section
variable {w w' : World} {g N mb wb : Nat} {f : Nat → Nat}
theorem BR.lt (h : BR w g N mb wb f) : g < w.heap.size := (Array.getElem?_eq_some_iff.1 h.row).1
theorem BR.c0 (h : BR w g N mb wb f) : w.cell? ⟨g, 0, none⟩ = some (.int .i64 N) := by rw [cell_of_row _ _ _ _ _ _ h.row]; rfl
theorem BR.c1 (h : BR w g N mb wb f) : w.cell? ⟨g, 1, none⟩ = some (.map (some mb)) := by rw [cell_of_row _ _ _ _ _ _ h.row]; rfl
theorem BR.c2 (h : BR w g N mb wb f) : w.cell? ⟨g, 2, none⟩ = some (.slice (some ⟨wb, 0, none⟩) ((N + 63) / 64 : Nat) ((N + 63) / 64 : Nat)) := by rw [cell_of_row _ _ _ _ _ _ h.row]; rfl
theorem BR.ne1 (h : BR w g N mb wb f) : g ≠ mb := by
  intro e
  obtain ⟨es, c, h1⟩ := h.map.isMap
  rw [← e, h.row] at h1
  cases h1
theorem BR.ne2 (h : BR w g N mb wb f) : g ≠ wb := by
  intro e
  obtain ⟨cs, wd, h1, _⟩ := h.wds
  rw [← e, h.row] at h1
  injection h1 with h1
  injection h1 with _ h1
  cases h1
theorem BR.ne3 (h : BR w g N mb wb f) : mb ≠ wb := by
  intro e
  obtain ⟨es, c, h1⟩ := h.map.isMap
  obtain ⟨cs, wd, h2, _⟩ := h.wds
  rw [e, h2] at h1
  cases h1
theorem BR.mods {S : Nat → Prop} (h : BR w g N mb wb f) (hm : Mods S w w') (h1 : ¬ S g) (h2 : ¬ S mb) (h3 : ¬ S wb) : BR w' g N mb wb f :=
  ⟨h.n1, h.n2, (hm.block g h.lt h1).trans h.row, h.map.mods hm h2, h.wds.same (hm.block wb h.wds.lt h3), h.top, h.fb⟩
theorem BR.below (h : BR w g N mb wb f) (hb : Below w.heap.size w w') : BR w' g N mb wb f := h.mods (S := fun _ => False) (Mods.of_below hb) id id id
end
theorem BR.heap {w w' : World} {g N mb wb : Nat} {f : Nat → Nat} (h : BR w g N mb wb f) (e : w'.heap = w.heap) : BR w' g N mb wb f :=
  ⟨h.n1, h.n2, by rw [e]; exact h.row, h.map.same (by rw [e]), h.wds.same (by rw [e]), h.top, h.fb⟩
theorem Mods.alike {S : Nat → Prop} {w w1 w' : World} (h : Mods S w w1) (e : w'.heap = w1.heap) (e1 : w'.os = w1.os) (e2 : w'.tape = w1.tape) (e3 : w'.output = w1.output) : Mods S w w' :=
  ⟨e1.trans h.os, e2.trans h.tape, e3.trans h.output, by rw [e]; exact h.size, fun k hk hs => by rw [e]; exact h.block k hk hs⟩
/-- What a change of a row may turn. -/
def Bt (mb wb : Nat) : Nat → Prop := fun k => k = mb ∨ k = wb
theorem keyed3 : Maps.Keyed Tryd.prog 3 := Maps.int_keyed Tryd.underlying3
theorem zero3 (w : World) : (zeroValue 3).run Tryd.prog w = .ok (.int .i64 0) w := by kernel_rfl
theorem wf64 {i : Int} (h0 : -9223372036854775808 ≤ i) (h1 : i ≤ 9223372036854775807) : (Lit.int .i64 i).wf = true := WalkArith.wf_i64 (by omega)
theorem key3 (i : Int) (h0 : -9223372036854775808 ≤ i) (h1 : i ≤ 9223372036854775807) : keyOf Tryd.prog 3 (.int .i64 i) = some (.int .i64 i) := Maps.keyOf_int_mk Tryd.underlying3 (wf64 h0 h1)
theorem sizeB {w : World} {g N mb wb : Nat} {f : Nat → Nat} (h : BR w g N mb wb f) : Calls Tryd.prog 49 #[.pointer (some ⟨g, 0, none⟩)] w fun e w' => e = .returned (.int .i64 N) ∧ w = w' := by
  have c0 := h.c0
  clear h
  go_enter Tryd.func49, Tryd.ntmps49
  go_wp2
  go_ret
  exact ⟨rfl, rfl⟩
theorem hasB {w : World} {g N mb wb : Nat} {f : Nat → Nat} (h : BR w g N mb wb f) (i : Nat) (hi : i < N) : Calls Tryd.prog 54 #[.pointer (some ⟨g, 0, none⟩), .int .i64 i] w fun e w' => e = .returned (.int .i64 0) ∧ w = w' := by
  have H := Lib.hid h
  have c0 := h.c0
  have hn : 1 ≤ N := h.n1
  clear h
  have hN : ((N : Int) == 0) = false := by simp; omega
  have h2 : ¬ (i : Int) < 0 := by omega
  have h3 : ¬ (N : Int) ≤ (i : Int) := by omega
  go_enter Tryd.func54, Tryd.ntmps54
  go_wp2_with (go_at_call 49; refine (sizeB H.out).mono ?_; rintro e w' ⟨rfl, rfl⟩)
  go_ret
  exact ⟨rfl, rfl⟩
theorem digitB (i : Nat) (hi : i ≤ 65536) (w : World) : Calls Tryd.prog 55 #[.int .i64 i] w fun e w' => e = .returned (.int .u64 ((2 ^ (i % 64) : Nat) : Int)) ∧ w' = w := by
  have h1 : (i : Int) % 64 ≤ 63 := by omega
  have h2 : 0 ≤ (i : Int) % 64 := by omega
  go_enter Tryd.func55, Tryd.ntmps55
  go_wp2
  go_ret
  have e : ((2 : Int) ^ (i % 64)) = ((2 ^ (i % 64) : Nat) : Int) := by simp
  exact ⟨by show Ending.returned (.int .u64 (IntKind.u64.wrap ((2 : Int) ^ (i % 64)))) = _; rw [e, u64_wrap _ (pow_lt _ (by omega))], rfl⟩
theorem WD.set {w : World} {wb n : Nat} {f : Nat → Nat} (h : WD w wb n f) (k : Nat) (hk : k < n) :
    ∃ m : Nat, w.cell? ⟨wb, k, none⟩ = some (.int .u64 m) ∧ w.frozen? ⟨wb, k, none⟩ = false ∧ m < 2 ^ 64 ∧ (∀ i, i < 64 → m.testBit i = decide (f (64 * k + i) ≠ 0)) ∧
      ∀ (w' : World) (m' : Nat) (f' : Nat → Nat), w'.heap[wb]? = w.heap[wb]? → m' < 2 ^ 64 → (∀ i, i < 64 → m'.testBit i = decide (f' (64 * k + i) ≠ 0)) → (∀ j, j / 64 ≠ k → (f j = 0 ↔ f' j = 0)) → WD (w'.setCell ⟨wb, k, none⟩ (.int .u64 m')) wb n f' := by
  obtain ⟨cs, wd, h1, h2, h3⟩ := h
  obtain ⟨a1, a2, a3⟩ := h3 k hk
  refine ⟨wd k, by rw [cell_of_row _ _ _ _ _ _ h1]; exact a1, by simp [World.frozen?, h1], a2, a3, fun w' m' f' hw hm hb ho => ?_⟩
  rw [h1] at hw
  refine ⟨cs.setIfInBounds k (.int .u64 m'), fun j => if j = k then m' else wd j, by simp [World.setCell, Array.getElem?_modify, hw], by simp [h2], fun j hj => ?_⟩
  by_cases e : j = k
  · subst e
    simp only [if_true]
    exact ⟨Array.getElem?_setIfInBounds_self_of_lt (by omega), hm, hb⟩
  · simp only [if_neg e]
    obtain ⟨b1, b2, b3⟩ := h3 j hj
    refine ⟨by rw [Array.getElem?_setIfInBounds_ne (by omega)]; exact b1, b2, fun i hi => ?_⟩
    rw [b3 i hi]
    have := ho (64 * j + i) (by omega)
    simp only [ne_eq, this]
/-- A row behind a change of one place. -/
def TurnP (w : World) (g N mb wb : Nat) (f : Nat → Nat) (r : Value) (e : Ending) (w' : World) : Prop := e = .returned r ∧ BR w' g N mb wb f ∧ Mods (Bt mb wb) w w'
theorem upd_off (f : Nat → Nat) (i v k : Nat) (h : i / 64 = k) : ∀ j, j / 64 ≠ k → (f j = 0 ↔ upd f i v j = 0) := by
  intro j hj
  unfold upd
  rw [if_neg (fun e => hj (by rw [e]; exact h))]
set_option maxRecDepth 100000 in
set_option maxHeartbeats 1000000 in
theorem holdB {w : World} {g N mb wb : Nat} {f : Nat → Nat} (h : BR w g N mb wb f) (i : Nat) (hi : i < N) (hf : f i < 2147483647) : Calls Tryd.prog 58 #[.pointer (some ⟨g, 0, none⟩), .int .i64 i] w (TurnP w g N mb wb (upd f i (f i + 1)) (.int .i64 0)) := by
  have n2 := h.n2
  have hl := h.map.look keyed3 Tryd.underlying109 (zero3 _) (key3 i (by omega) (by omega))
  rw [bf_get] at hl
  have hc := cnt_le f N
  obtain ⟨w1, hs, m1, d1, z1⟩ := h.map.store keyed3 Tryd.underlying109 (by unfold maxLen; omega) (v := .int .i64 ((f i : Int) + 1)) (key3 i (by omega) (by omega))
  have h1g : w1.heap[g]? = w.heap[g]? := d1.block g h.lt h.ne1
  have h1w : w1.heap[wb]? = w.heap[wb]? := d1.block wb h.wds.lt (fun e => h.ne3 e.symm)
  obtain ⟨m, k1, k2, k3, k4, k5⟩ := (h.wds.same h1w).set (i / 64) (by omega)
  have hlt : m ||| 2 ^ (i % 64) < 2 ^ 64 := Nat.or_lt_two_pow k3 (pow_lt _ (by omega))
  have hW := k5 w1 (m ||| 2 ^ (i % 64)) (upd f i (f i + 1)) rfl hlt (fun j hj => by
    rw [or_bit, k4 j hj]
    unfold upd
    by_cases e : i % 64 = j
    · rw [if_pos (by omega)]; simp [e]
    · rw [if_neg (by omega)]; simp [e]) (upd_off f i _ _ rfl)
  have hB : BR (w1.setCell ⟨wb, i / 64, none⟩ (.int .u64 ((m ||| 2 ^ (i % 64) : Nat) : Int))) g N mb wb (upd f i (f i + 1)) := by
    refine ⟨h.n1, h.n2, ?_, ?_, hW, fun j hj => ?_, fun j => ?_⟩
    · rw [Below.heap_setCell _ _ _ _ (by exact h.ne2)]
      exact h1g.trans h.row
    · have e1 : (if (bf f (.int .i64 i)).isSome then cnt f N else cnt f N + 1) = cnt (upd f i (f i + 1)) N := by
        have := cnt_upd f i (f i + 1) N hi
        rw [bf_some]
        by_cases hz : f i = 0
        · simp [hz] at this ⊢; omega
        · simp [hz] at this ⊢; omega
      rw [e1, show ((f i : Int) + 1) = ((f i + 1 : Nat) : Int) by omega, bf_upd _ _ _ (by omega)] at m1
      exact m1.same (Below.heap_setCell _ _ _ _ (by exact h.ne3))
    · unfold upd; rw [if_neg (by omega)]; exact h.top j hj
    · unfold upd; split
      · omega
      · exact h.fb j
  have HB := Lib.hid hB
  have HM : Hid (Mods (Bt mb wb) w (w1.setCell ⟨wb, i / 64, none⟩ (.int .u64 ((m ||| 2 ^ (i % 64) : Nat) : Int)))) :=
    (d1.mono (fun b hb => .inl (.inl hb))).trans (Mods.set (S := Bt mb wb) w1 ⟨wb, i / 64, none⟩ _ (.inr rfl)) (fun b hb => .inl hb)
  have H := Lib.hid h
  have c1 := h.c1
  have q0 := cell_of_row w1 g 0 _ _ _ (h1g.trans h.row)
  have q1 : w1.cell? ⟨g, 2, none⟩ = some (.slice (some ⟨wb, 0, none⟩) ((N + 63) / 64 : Nat) ((N + 63) / 64 : Nat)) := by rw [cell_of_row _ _ _ _ _ _ (h1g.trans h.row)]; rfl
  have hor := u64_or m (2 ^ (i % 64)) k3 (pow_lt _ (by omega))
  obtain ⟨M, hM⟩ : ∃ M : Nat, m ||| 2 ^ (i % 64) = M := ⟨_, rfl⟩
  obtain ⟨d, hdd⟩ : ∃ d : Nat, 2 ^ (i % 64) = d := ⟨_, rfl⟩
  rw [hM] at hor HB HM
  rw [hdd] at hor
  have hne : ((f i : Int) == 2147483647) = false := by simp; omega
  have hd := fun W => digitB i (by omega) W
  rw [hdd] at hd
  have HD := Lib.hid hd
  obtain ⟨nw, hnw⟩ : ∃ nw, (N + 63) / 64 = nw := ⟨_, rfl⟩
  obtain ⟨k, hk⟩ : ∃ k, i / 64 = k := ⟨_, rfl⟩
  have hkn : (k : Int) < (nw : Int) := by omega
  have hwr : IntKind.i64.wrap ((i : Int) / 64) = (k : Int) := by rw [IntWalk.i64_in _ (by omega)]; omega
  rw [hnw] at q1
  rw [hk] at k1 k2 HB HM
  clear h hB hW k5 k4 k3 hlt d1 m1 z1 h1g h1w hd hc q0 hnw hk hM hdd
  go_enter Tryd.func58, Tryd.ntmps58
  go_wp2_with (go_at_call 54; refine (hasB H.out i hi).mono ?_; rintro e w' ⟨rfl, rfl⟩)
  refine wp_region_still_tail 12 (by kernel_rfl) (by kernel_rfl) ?_
  simp only [List.take_succ_cons, List.take_zero, List.drop_succ_cons, List.drop_zero]
  iterate 9 still_step
  still_call (HD.out _)
  iterate 2 still_step
  refine wpStill_nil ?_
  change wpList _ _ _ _ _ w1.drew
  go_wp2_with fail
  go_ret
  exact ⟨rfl, HB.out.heap rfl, HM.out.alike rfl rfl rfl rfl⟩
end Go.Proofs.YtjdamlmoegippaaDoor.ex
