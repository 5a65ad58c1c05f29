/-
  Contracts of package ring's ask, Map and Find, handed a function that answers a bool and leaves all as it is; and of the fixed calls (alive). Condition: what is handed in is such a function.
-/
import Derived.Test.YtfdihgahegfamaaS
import Derived.Defers
import Derived.Recover
import Derived.LoopTactic
import Derived.Outline
namespace Go.Proofs.Ytfdihgahegfamaa
open Go.RowKit
theorem rec83 (w : World) : CallsD Try.prog 83 #[] .returning w fun e u' w' => e = .returned (.tuple #[]) ∧ u' = .returning ∧ w' = w := by
  refine callsD_of_wpS Try.func83 rfl fun c₀ cs hu => ?_
  first | apply wpS_region | (apply wpS_seq; apply wpS_region)
  simp [wpOpsS, go_sem, recoverD, hu, Try.ntmps83, bodyPostS, results, Try.results83]
  cases c₀
  simp_all
theorem clos57 (x : Int) (w : World) : Calls Try.prog 57 #[.int .i64 x] w fun e w' => e = .returned (.bool (decide (1 < x))) ∧ w = w' := by
  go_enter Try.func57, Try.ntmps57
  go_wp2
  go_ret
  exact ⟨rfl, rfl⟩
theorem clos37 (x y : Int) (g : Nat) (w : World) (h : w.cell? ⟨g, 0, none⟩ = some (.int .i64 y)) : Calls Try.prog 37 #[.int .i64 x, .pointer (some ⟨g, 0, none⟩)] w fun e w' => e = .returned (.bool (decide (y < x))) ∧ w = w' := by
  go_enter Try.func37, Try.ntmps37
  go_wp2
  go_ret
  exact ⟨rfl, rfl⟩
theorem clos39 (x y : Int) (g : Nat) (w : World) (h : w.cell? ⟨g, 0, none⟩ = some (.int .i64 y)) : Calls Try.prog 39 #[.int .i64 x, .pointer (some ⟨g, 0, none⟩)] w fun e w' => e = .returned (.bool (decide (y < x))) ∧ w = w' := by
  go_enter Try.func39, Try.ntmps39
  go_wp2
  go_ret
  exact ⟨rfl, rfl⟩
theorem clos62 (x y : Int) (g : Nat) (w : World) (h : w.cell? ⟨g, 1, none⟩ = some (.int .i64 y)) : Calls Try.prog 62 #[.int .i64 x, .pointer (some ⟨g, 0, none⟩)] w fun e w' => e = .returned (.bool (decide (y < x))) ∧ w = w' := by
  go_enter Try.func62, Try.ntmps62
  go_wp2
  go_ret
  exact ⟨rfl, rfl⟩
theorem ask57 (x : Int) (w : World) : Calls Try.prog 73 #[.func (.func 57) #[] #[], .int .i64 x] w fun e w' => e = .returned (.bool (decide (1 < x))) ∧ w = w' := by
  go_enter_defers Try.func73, Try.ntmps73
  go_wp2_with (go_at_call 57; refine (clos57 x _).mono ?_; rintro e w' ⟨rfl, rfl⟩)
  refine leaves_cons (f := 83) (args := #[]) (by simp) (by simp [go_sem]) ?_
  refine (rec83 _).mono ?_
  rintro e u' w'' ⟨rfl, rfl, rfl⟩
  exact ⟨_, results_tmp rfl _ _ _, rfl, rfl⟩
theorem ask37 (x : Int) (y : Int) (g : Nat) (w : World) (h : w.cell? ⟨g, 0, none⟩ = some (.int .i64 y)) : Calls Try.prog 73 #[.func (.func 37) #[] #[.pointer (some ⟨g, 0, none⟩)], .int .i64 x] w fun e w' => e = .returned (.bool (decide (y < x))) ∧ w = w' := by
  go_enter_defers Try.func73, Try.ntmps73
  go_wp2_with (go_at_call 37; refine (clos37 x y g _ h).mono ?_; rintro e w' ⟨rfl, rfl⟩)
  refine leaves_cons (f := 83) (args := #[]) (by simp) (by simp [go_sem]) ?_
  refine (rec83 _).mono ?_
  rintro e u' w'' ⟨rfl, rfl, rfl⟩
  exact ⟨_, results_tmp rfl _ _ _, rfl, rfl⟩
theorem ask39 (x : Int) (y : Int) (g : Nat) (w : World) (h : w.cell? ⟨g, 0, none⟩ = some (.int .i64 y)) : Calls Try.prog 73 #[.func (.func 39) #[] #[.pointer (some ⟨g, 0, none⟩)], .int .i64 x] w fun e w' => e = .returned (.bool (decide (y < x))) ∧ w = w' := by
  go_enter_defers Try.func73, Try.ntmps73
  go_wp2_with (go_at_call 39; refine (clos39 x y g _ h).mono ?_; rintro e w' ⟨rfl, rfl⟩)
  refine leaves_cons (f := 83) (args := #[]) (by simp) (by simp [go_sem]) ?_
  refine (rec83 _).mono ?_
  rintro e u' w'' ⟨rfl, rfl, rfl⟩
  exact ⟨_, results_tmp rfl _ _ _, rfl, rfl⟩
theorem ask62 (x : Int) (y : Int) (g : Nat) (w : World) (h : w.cell? ⟨g, 1, none⟩ = some (.int .i64 y)) : Calls Try.prog 73 #[.func (.func 62) #[] #[.pointer (some ⟨g, 0, none⟩)], .int .i64 x] w fun e w' => e = .returned (.bool (decide (y < x))) ∧ w = w' := by
  go_enter_defers Try.func73, Try.ntmps73
  go_wp2_with (go_at_call 62; refine (clos62 x y g _ h).mono ?_; rintro e w' ⟨rfl, rfl⟩)
  refine leaves_cons (f := 83) (args := #[]) (by simp) (by simp [go_sem]) ?_
  refine (rec83 _).mono ?_
  rintro e u' w'' ⟨rfl, rfl, rfl⟩
  exact ⟨_, results_tmp rfl _ _ _, rfl, rfl⟩
/-- A slice that reads as ints. -/
def SI (w : World) (v : Value) (xs : List Int) : Prop :=
  ∃ x c, v = .slice x xs.length c ∧ xs.length ≤ c ∧ c ≤ maxLen ∧ ∀ k z, xs[k]? = some z → ∃ b o, x = some ⟨b, o, none⟩ ∧ b < w.heap.size ∧ w.cell? ⟨b, o + k, none⟩ = some (.int .i64 z)
theorem SI.below {w w' : World} {v : Value} {xs : List Int} (h : SI w v xs) (hb : Below w.heap.size w w') : SI w' v xs := by
  obtain ⟨x, c, rfl, h1, h2, h3⟩ := h
  refine ⟨x, c, rfl, h1, h2, fun k z hz => ?_⟩
  obtain ⟨b, o, e, h4, h5⟩ := h3 k z hz
  exact ⟨b, o, e, by have := hb.size; omega, (hb.cell (p := ⟨b, o + k, none⟩) h4).trans h5⟩
theorem Rw.si {w : World} {v : Value} {n : Nat} {xs : List Int} (h : Rw w 3 1 v n (xs.map (Value.int .i64))) : SI w v xs := by
  have hl : n = xs.length := by have := h.1; simp at this; exact this.symm
  subst hl
  obtain ⟨x, c, rfl, h1, h2⟩ := h.form
  refine ⟨x, c, rfl, h1, h2, fun k z hz => ?_⟩
  obtain ⟨b, o, e, h3, _⟩ := h.cell (j := k) (u := .int .i64 z) (by simp [hz])
  exact ⟨b, o, e, World.block_lt_of_cell? w _ h3, h3⟩
/-- What a function value answers, in whatever world that has all that was there. -/
def Asks (w : World) (fv : Value) (p : Int → Bool) : Prop := ∀ (x : Int) (W : World), Below w.heap.size w W → Calls Try.prog 73 #[fv, .int .i64 x] W fun e w' => e = .returned (.bool (p x)) ∧ W = w'
/-- Bools in a new block. -/
def BoolsP (w : World) (ys : List Bool) (e : Ending) (w' : World) : Prop :=
  ∃ g, e = .returned (.slice (some ⟨g, 0, none⟩) ys.length ys.length) ∧ w.heap.size ≤ g ∧ w'.heap[g]? = some (.cells (ys.map Value.bool).toArray 4 (0, 0)) ∧ Below w.heap.size w w'
def bmap (p : Int → Bool) (xs : List Int) (k : Nat) : List Value := (xs.take k).map (fun x => Value.bool (p x)) ++ List.replicate (xs.length - k) (.bool false)
theorem bmap_set (p : Int → Bool) (xs : List Int) (k : Nat) (z : Int) (h : xs[k]? = some z) : (bmap p xs k).set k (.bool (p z)) = bmap p xs (k + 1) := by
  obtain ⟨hk, rfl⟩ := List.getElem?_eq_some_iff.1 h
  unfold bmap
  rw [List.set_append_right _ _ (by simp; omega)]
  rw [show xs.length - k = (xs.length - (k + 1)) + 1 by omega, List.replicate_succ]
  have e : k - ((xs.take k).map (fun x => Value.bool (p x))).length = 0 := by simp; omega
  rw [e, List.set_cons_zero, List.take_succ_eq_append_getElem hk, List.map_append]
  simp
theorem bmap_all (p : Int → Bool) (xs : List Int) : bmap p xs xs.length = (xs.map p).map Value.bool := by
  unfold bmap; simp
theorem info4 : (Try.prog.info? 4).map (fun i => (i.zero, i.size, i.bytes)) = some (some (.bool false), 1, 1) := by kernel_rfl
theorem make62 (w : World) (n : Nat) (hn : n ≤ 65536) : (Instr.makeSlice 62 (.int .i64 n) (.int .i64 n)).run Try.prog w = .ok (.slice (some ⟨w.heap.size, 0, none⟩) n n) (w.alloc (.cells (Array.replicate n (.bool false)) 4)) := by
  obtain ⟨i, hi, hz0, hz1, hz2⟩ := info_parts info4
  have h := run_make (P := Try.prog) w 62 4 i (.bool false) Try.underlying62 hi hz0 .i64 .i64 n n (by omega) (by omega) (by rw [hz2]; omega) (by omega)
  simp only [Int.toNat_natCast] at h
  rw [h]
  have hm : madeCells (Value.bool false).cells (n * i.size) = Array.replicate n (.bool false) := by
    rw [hz1, Nat.mul_one]
    unfold madeCells
    apply Array.ext
    · simp
    · intro j h1 h2; simp [Value.cells, Nat.mod_one]
  rw [hm]
theorem eq45 (F : Nat) (c : Array Value) (w : World) : (binOp BinOp.eql 45 (Value.func (Fn.func F) #[] c) Value.nilFunc).run Try.prog w = .ok (.bool false) w := by kernel_rfl
set_option maxRecDepth 100000 in
set_option maxHeartbeats 1000000 in
theorem mapIB (v : Value) (xs : List Int) (F : Nat) (c : Array Value) (p : Int → Bool) (w : World) (h : SI w v xs) (hl : xs.length ≤ 65536) (ha : Asks w (.func (.func F) #[] c) p) :
    Calls Try.prog 36 #[v, .func (.func F) #[] c] w (BoolsP w (xs.map p)) := by
  obtain ⟨x, cp, rfl, h1, h2, h3⟩ := h
  have HM := Lib.hid (make62 w xs.length hl)
  have HA := Lib.hid ha
  have H3 := Lib.hid h3
  clear h3 ha
  go_enter Try.func36, Try.ntmps36
  have hm := HM.out
  have he := fun w => eq45 F c w
  go_wp2_with fail
  clear hm
  go_loopw [15] (fun i wr => ∃ k : Nat, k ≤ xs.length ∧ i = .int .i64 k ∧ wr.heap[w.heap.size]? = some (.cells (bmap p xs k).toArray 4 (0, 0)) ∧ Below w.heap.size w wr) (fun i _ => xs.length - (intOf i).toNat)
  case atStart =>
    refine ⟨0, by omega, rfl, ?_, (Below.refl _ _).alloc (Nat.le_refl _) _⟩
    rw [heap_alloc_new]
    congr 2
  case round =>
    obtain ⟨k, hk, rfl, hg, hb⟩ := hrel
    by_cases hlt : k < xs.length
    · obtain ⟨b, o, rfl, hbl, hcell⟩ := H3.out k xs[k] (by simp [hlt])
      have hc1 : wr.cell? ⟨b, o + k, none⟩ = some (.int .i64 xs[k]) := (hb.cell (p := ⟨b, o + k, none⟩) hbl).trans hcell
      have hc2 : wr.cell? ⟨w.heap.size, k, none⟩ = some ((bmap p xs k).toArray[k]?.getD undef) := by
        rw [cell_of_row _ _ _ _ _ _ hg]
        have : k < (bmap p xs k).toArray.size := by simp [bmap]; omega
        rw [Array.getElem?_eq_getElem this]; rfl
      have hf : wr.frozen? ⟨w.heap.size, k, none⟩ = false := by simp [World.frozen?, hg]
      have HS := Lib.hid (bmap_set p xs k xs[k] (by simp [hlt]))
      have HG := Lib.hid hg
      have HB := Lib.hid hb
      generalize hz : xs[k] = z at hc1 HS
      generalize (bmap p xs k).toArray[k]?.getD undef = u at hc2
      clear hg hb hcell hz he
      go_wp2_with (go_at_call 73; refine (HA.out z wr HB.out).mono ?_; rintro e w' ⟨rfl, rfl⟩)
      go_roundw
      case rel =>
        refine ⟨k + 1, by omega, by go_num, ?_, HB.out.setCell (Nat.le_refl _) _⟩
        rw [← HS.out]
        simp [World.setCell, Array.getElem?_modify, HG.out]
      case measure => simp [intOf]; omega
    · obtain rfl : k = xs.length := by omega
      have HG := Lib.hid hg
      have HB := Lib.hid hb
      clear hg hb he
      go_wp2_with fail
      go_ret
      refine ⟨w.heap.size, by simp, Nat.le_refl _, ?_, HB.out⟩
      rw [HG.out, bmap_all]
/-- The place of the first one. -/
def fst (p : Int → Bool) (xs : List Int) : Int := match xs.findIdx? p with | some i => (i : Int) | none => -1
theorem fst_at (p : Int → Bool) (xs : List Int) (k : Nat) (z : Int) (h : xs[k]? = some z) (hz : p z = true) (hb : ∀ j y, j < k → xs[j]? = some y → p y = false) : fst p xs = k := by
  unfold fst
  obtain ⟨hk, rfl⟩ := List.getElem?_eq_some_iff.1 h
  have : xs.findIdx? p = some k := by
    rw [List.findIdx?_eq_some_iff_getElem]
    exact ⟨hk, hz, fun j hj => by simpa using hb j xs[j] hj (by simp)⟩
  rw [this]
theorem fst_no (p : Int → Bool) (xs : List Int) (hb : ∀ j y, j < xs.length → xs[j]? = some y → p y = false) : fst p xs = -1 := by
  unfold fst
  have : xs.findIdx? p = none := by
    rw [List.findIdx?_eq_none_iff]
    intro x hx
    obtain ⟨i, hi, rfl⟩ := List.mem_iff_getElem.1 hx
    exact hb i _ hi (by simp [hi])
  rw [this]
set_option maxRecDepth 100000 in
set_option maxHeartbeats 1000000 in
theorem findI {w : World} {g N n : Nat} {v : Value} {xs : List Int} (h : RG 97 3 1 w g N v n (xs.map (Value.int .i64))) (hn : n ≤ 65536) (F : Nat) (c : Array Value) (p : Int → Bool) (ha : Asks w (.func (.func F) #[] c) p) :
    Calls Try.prog 38 #[.pointer (some ⟨g, 0, none⟩), .func (.func F) #[] c] w fun e w' => e = .returned (.int .i64 (fst p xs)) ∧ w = w' := by
  have hl : xs.length = n := by have := h.2.1; simp at this; exact this
  have H := Lib.hid h
  have HA := Lib.hid ha
  have c1 := h.c1
  obtain ⟨x, cp, rfl, hc1, hc2⟩ := h.2.form
  unfold maxLen at hc2
  have he := fun w => eq45 F c w
  clear h ha
  go_enter Try.func38, Try.ntmps38
  go_wp2_with fail
  go_loop [5] (fun i => ∃ k : Nat, k ≤ n ∧ i = .int .i64 k ∧ ∀ j y, j < k → xs[j]? = some y → p y = false) (fun i => n - (intOf i).toNat)
  case atStart => exact ⟨0, by omega, rfl, fun j y hj => by omega⟩
  case round =>
    obtain ⟨k, hk, rfl, hb⟩ := hrel
    have HB := Lib.hid hb
    clear hb he
    by_cases hlt : k < n
    · have hxk : xs[k]? = some (xs[k]'(by omega)) := List.getElem?_eq_getElem (by omega)
      generalize xs[k]'(by omega) = z at hxk
      obtain ⟨b, o, rfl, hcell, _⟩ := H.out.2.cell (j := k) (u := .int .i64 z) (by simp [hxk])
      have hd : decide (0 ≤ (k : Int) ∧ (k : Int) < (n : Int)) = true := by simp; omega
      have HD := Lib.hid hd
      have HX := Lib.hid hxk
      clear hd hxk
      cases hpz : p z with
      | true =>
        have HP := Lib.hid hpz
        have AT : Hid (Calls Try.prog 73 #[.func (.func F) #[] c, .int .i64 z] w fun e w' => e = .returned (.bool true) ∧ w = w') := by
          have := HA.out z w (Below.refl _ _)
          rw [hpz] at this
          exact this
        clear hpz
        go_wp2_with (first | (go_at_call 69; refine (hasI H.out k).mono ?_; rintro e w' ⟨rfl, rfl⟩; rw [HD.out]) | (go_at_call 73; refine AT.out.mono ?_; rintro e w' ⟨rfl, rfl⟩))
        go_ret
        exact ⟨by rw [fst_at p xs k z HX.out HP.out HB.out]; rfl, rfl⟩
      | false =>
        have HP := Lib.hid hpz
        have AT : Hid (Calls Try.prog 73 #[.func (.func F) #[] c, .int .i64 z] w fun e w' => e = .returned (.bool false) ∧ w = w') := by
          have := HA.out z w (Below.refl _ _)
          rw [hpz] at this
          exact this
        clear hpz
        go_wp2_with (first | (go_at_call 69; refine (hasI H.out k).mono ?_; rintro e w' ⟨rfl, rfl⟩; rw [HD.out]) | (go_at_call 73; refine AT.out.mono ?_; rintro e w' ⟨rfl, rfl⟩))
        go_round
        case rel =>
          refine ⟨k + 1, by omega, by go_num, fun j y hj hy => ?_⟩
          by_cases hjk : j = k
          · subst hjk
            rw [HX.out] at hy
            obtain rfl := Option.some.inj hy
            exact HP.out
          · exact HB.out j y (by omega) hy
        case measure => simp [intOf]; omega
    · have hd : decide (0 ≤ (k : Int) ∧ (k : Int) < (n : Int)) = false := by simp; omega
      have HD := Lib.hid hd
      clear hd
      go_wp2_with (go_at_call 69; refine (hasI H.out k).mono ?_; rintro e w' ⟨rfl, rfl⟩; rw [HD.out])
      go_ret
      exact ⟨by rw [fst_no p xs (fun j y hj hy => HB.out j y (by omega) hy)]; rfl, rfl⟩
end Go.Proofs.Ytfdihgahegfamaa
