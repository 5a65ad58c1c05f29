/-
  The step from a walk to a row, for every law of this seat; what the arguments read as; the fixed calls of extent (alive); begin. Condition: the arguments' types can be read.
-/
import Derived.Test.YtjgkochbfjlinaaP
import Derived.Deep.Slices
import Derived.Deep.Fields
import Derived.ChangeSame
namespace Go.Proofs.Ytjgkochbfjlinaa
open Go.ChangeShapes Go.WideShapes Go.ChangeAt Go.RowKit Go.Deep

theorem own : ownKnob Try.prog.godebug = none := by kernel_rfl
theorem laid : laidOutB Try.prog = true := by kernel_rfl

theorem all_stay {H : Type} {enc : TypeId × Value → H} {P : Program} (hl : laidOutB P = true) {W W' : World} (hb : Below W.heap.size W W') (ts : List TypeId) :
    ∀ (vs : List Value) (ds : List (DataW H)) (ps : List MemPlace), ts.all (fun t => P.readableRec t && decide (t < P.types.size)) = true → (∀ p ∈ ps, p.block < W.heap.size) →
      DataW.TrodAll enc P W 0 (fun _ => true) true ts vs ds ps → DataW.TrodAll enc P W' 0 (fun b => decide (b < W.heap.size)) true ts vs ds ps := by
  induction ts with
  | nil =>
    intro vs ds ps _ _ h
    cases vs <;> cases ds <;> simp_all [DataW.TrodAll]
  | cons t ts ih =>
    intro vs ds ps hr hp h
    cases vs with
    | nil => exact (h : False).elim
    | cons v vs =>
      cases ds with
      | nil => exact (h : False).elim
      | cons d ds =>
        obtain ⟨p, q, h1, h2, e⟩ := h
        subst e
        rw [List.all_cons, Bool.and_eq_true, Bool.and_eq_true] at hr
        exact ⟨p, q, Below.trod hl hr.1.1 (of_decide_eq_true hr.1.2) h1 hb (fun x hx => hp x (List.mem_append_left _ hx)),
          ih vs ds q hr.2 (fun x hx => hp x (List.mem_append_right _ hx)) h2, rfl⟩

theorem law_post {H : Type} {enc : TypeId × Value → H} {f : Func} {s : ChangeSpec} {W W' : World} {args : Array Value} {ds gs : List (DataW H)} {before : List MemPlace}
    (hW : DataW.Whole enc Try.prog f.params.toList s.vars false W args.toList ds gs before) (hv : s.vars = []) (hs : s.fn H (ds ++ gs) = { results := [.lit (.bool true)], args := ds })
    (hr : f.resultTypes = #[4]) (hp : f.params.toList.all (fun t => Try.prog.readableRec t && decide (t < Try.prog.types.size)) = true) (hb : Below W.heap.size W W') :
    s.post enc Try.prog f false true false false W args (.bool true) W' := by
  have hlt : ∀ p ∈ before, p.block < W.heap.size := fun p hp => hW.lt p hp
  have hW' := hW
  obtain ⟨p, q, hA, hV, he, _, _⟩ := hW'
  rw [hv] at hV
  obtain ⟨rfl, rfl⟩ := trodVars_none hV
  subst he
  refine ⟨ds, [], _, [], p, [], hW, ?_, ?_, ?_, ?_, fun h => by cases h⟩
  · rw [hs, hr]
    exact trodAll_mk1 (shut_bool Try.underlying4 _)
  · rw [hs]
    exact all_stay laid hb _ _ _ _ hp (fun x hx => hlt x (List.mem_append_left _ hx)) hA
  · rw [hs, hv]
    rfl
  · exact hb.frame _


theorem cells34 : Try.prog.cellsOf 34 = 5 := by kernel_rfl
theorem cells3' : Try.prog.cellsOf 3 = 1 := by kernel_rfl
theorem cells23' : Try.prog.cellsOf 23 = 1 := by kernel_rfl
/-- The cells of an op. -/
def OpV (cs : List Value) : Prop := ∃ (k t a b : Int) (x : Nat), cs = [.int .i64 k, .int .i64 t, .int .i64 a, .int .i64 b, .int .u32 x] ∧ x < 4294967296 ∧ (-9223372036854775808 ≤ k ∧ k ≤ 9223372036854775807) ∧ (-9223372036854775808 ≤ t ∧ t ≤ 9223372036854775807)
section
variable {H : Type} {enc : TypeId × Value → H} {w : World} {base : Nat} {sp : Nat → Bool} {held : Bool} {n : Nat} {x : DataW H × List MemPlace}
set_option maxRecDepth 100000 in
theorem op_cells {cs : List Value} {fuel : Nat} (hf : DataW.trod enc Try.prog w base sp held fuel 34 cs = some x) : OpV cs := by
  obtain ⟨xs, n, _, _, hl, hlen, hg⟩ := DataW.trod_struct Try.underlying34 hf
  rw [cells34] at hl
  match cs, hl with
  | [v0, v1, v2, v3, v4], _ =>
    match xs, hlen with
    | [y0, y1, y2, y3, y4], _ =>
      have g0 : DataW.trod enc Try.prog w base sp held n 3 [v0] = some y0 := by simpa [cells3'] using hg 0 _ rfl
      have g1 : DataW.trod enc Try.prog w base sp held n 3 [v1] = some y1 := by simpa [cells3'] using hg 1 _ rfl
      have g2 : DataW.trod enc Try.prog w base sp held n 3 [v2] = some y2 := by simpa [cells3'] using hg 2 _ rfl
      have g3 : DataW.trod enc Try.prog w base sp held n 3 [v3] = some y3 := by simpa [cells3'] using hg 3 _ rfl
      have g4 : DataW.trod enc Try.prog w base sp held n 23 [v4] = some y4 := by simpa [cells23'] using hg 4 _ rfl
      obtain ⟨z0, e0, _, w0⟩ := DataW.trod_int Try.underlying3 g0
      obtain ⟨z1, e1, _, w1⟩ := DataW.trod_int Try.underlying3 g1
      obtain ⟨z2, e2, _, _⟩ := DataW.trod_int Try.underlying3 g2
      obtain ⟨z3, e3, _, _⟩ := DataW.trod_int Try.underlying3 g3
      obtain ⟨z4, e4, _, w4⟩ := DataW.trod_int Try.underlying23 g4
      simp only [List.cons.injEq, and_true] at e0 e1 e2 e3 e4
      have b4 := bounds_u32 w4
      obtain ⟨s, rfl⟩ : ∃ s : Nat, z4 = s := ⟨z4.toNat, by omega⟩
      exact ⟨z0, z1, z2, z3, s, by rw [e0, e1, e2, e3, e4], by omega, bounds_i64 w0, bounds_i64 w1⟩
end
/-- A slice of ops. -/
def SV (w : World) (x : Option Addr) (l : Nat) : Prop :=
  l ≤ maxLen ∧ ∀ i, i < l → ∃ (k t a b : Int) (y : Nat) (g o : Nat), x = some ⟨g, o, none⟩ ∧ g < w.heap.size ∧ y < 4294967296 ∧ (-9223372036854775808 ≤ k ∧ k ≤ 9223372036854775807) ∧ (-9223372036854775808 ≤ t ∧ t ≤ 9223372036854775807) ∧
    w.cell? ⟨g, o + i * 5, none⟩ = some (.int .i64 k) ∧ w.cell? ⟨g, o + i * 5 + 1, none⟩ = some (.int .i64 t) ∧ w.cell? ⟨g, o + i * 5 + 2, none⟩ = some (.int .i64 a) ∧ w.cell? ⟨g, o + i * 5 + 3, none⟩ = some (.int .i64 b) ∧ w.cell? ⟨g, o + i * 5 + 4, none⟩ = some (.int .u32 y)
theorem SV.below {w w' : World} {x : Option Addr} {l : Nat} (h : SV w x l) (hb : Below w.heap.size w w') : SV w' x l := by
  refine ⟨h.1, fun i hi => ?_⟩
  obtain ⟨k, t, a, b, y, g, o, e, hg, h1, h2, h3, c0, c1, c2, c3, c4⟩ := h.2 i hi
  exact ⟨k, t, a, b, y, g, o, e, by have := hb.size; omega, h1, h2, h3, (hb.cell (p := ⟨g, o + i * 5, none⟩) hg).trans c0, (hb.cell (p := ⟨g, o + i * 5 + 1, none⟩) hg).trans c1, (hb.cell (p := ⟨g, o + i * 5 + 2, none⟩) hg).trans c2, (hb.cell (p := ⟨g, o + i * 5 + 3, none⟩) hg).trans c3, (hb.cell (p := ⟨g, o + i * 5 + 4, none⟩) hg).trans c4⟩
set_option maxRecDepth 100000 in
theorem open_sv {H : Type} {enc : TypeId × Value → H} {w : World} {r : Reach} {b0 base : Nat} {v : Value} {d : DataW H} {ps : List MemPlace}
    (hval : Value.okWide Try.prog w r b0 22 v) (hd : DataW.Trod enc Try.prog w base (fun _ => true) true 22 v d ps) : ∃ (x : Option Addr) (l c : Nat), v = .slice x l c ∧ SV w x l := by
  obtain ⟨fuel, hf⟩ := hd
  obtain ⟨x', l', k', rfl⟩ := okWide_slice Try.underlying22 hval
  refine ⟨x', l', k', rfl, ?_⟩
  rcases Go.Deep.open_slice Try.underlying22 hf with ⟨hc, _⟩ | ⟨a, len, cap, m, n, D, Pl, hc, _, hl, hm, hmm, hx, hi⟩
  · simp [Value.cells] at hc
    obtain ⟨rfl, rfl, rfl⟩ := hc
    exact ⟨Nat.zero_le _, fun i h => by omega⟩
  · simp [Value.cells] at hc
    obtain ⟨rfl, rfl, rfl⟩ := hc
    rw [if_pos rfl] at hmm
    refine ⟨by omega, fun i hil => ?_⟩
    obtain ⟨cs', h1, h2⟩ := hi i (by omega)
    rw [cells34] at h1
    obtain ⟨k, t, aa, bb, y, rfl, hy, hk, ht⟩ := op_cells h2
    obtain ⟨_, hcl, hat⟩ := World.cells?_some h1
    have g : ∀ (j : Nat) (u : Value), j < 5 → ([.int .i64 k, .int .i64 t, .int .i64 aa, .int .i64 bb, .int .u32 y] : List Value)[j]? = some u → w.cell? (a.add (i * 5 + j)) = some u := fun j u hj hu => by
      have h6 := hat j hj
      rw [hu] at h6
      rw [← Go.Deep.add_add, h6]
    have g0 := g 0 _ (by omega) rfl
    have g1 := g 1 _ (by omega) rfl
    have g2 := g 2 _ (by omega) rfl
    have g3 := g 3 _ (by omega) rfl
    have g4 := g 4 _ (by omega) rfl
    obtain ⟨cs0, p1, p2⟩ := hi 0 (by omega)
    rw [cells34] at p1
    obtain ⟨_, _, _, _, _, rfl, _, _, _⟩ := op_cells p2
    obtain ⟨_, _, hat0⟩ := World.cells?_some p1
    have q0 := hat0 0 (by omega)
    rw [Go.Deep.add_add] at q0
    obtain ⟨b, o, spot⟩ := a
    have hspot : spot = none := by simpa [Addr.add] using World.cell?_spot q0
    subst hspot
    rw [addr_add, ← Nat.add_assoc] at g0 g1 g2 g3 g4
    exact ⟨k, t, aa, bb, y, b, o, rfl, World.block_lt_of_cell? w _ g0, hy, hk, ht, g0, g1, g2, g3, g4⟩

def z0 : St := ⟨fun _ => 0, fun _ => a0⟩
def z1 : St := (sAdm 10 z0 1 4 6).2
def z2 : St := (sAdm 10 z1 2 7 7).2
def z3 : St := (sTak 10 z2 1).2
def z4 : St := (sDrp 10 z3 1 0).2
theorem z1c : (sAdm 10 z0 1 4 6).1 = 0 := by decide +kernel
theorem z2c : (sAdm 10 z1 2 7 7).1 = 61 := by decide +kernel
theorem z3c : (sTak 10 z2 1).1 = 0 := by decide +kernel
theorem z3x : xTak 10 z2 1 = 0 := by decide +kernel
theorem z4c : (sDrp 10 z3 1 0).1 = 0 := by decide +kernel
theorem z4s : slack 10 z4.T = 6 := by decide +kernel
theorem z4g : chg z4.T 1 = 0 := by decide +kernel
theorem Ft_below {g mb wb B : Nat} {a w w' : World} (h : Below B a w) (k : Mods (Ft g mb wb) w w') (hB : B ≤ w.heap.size) (h1 : B ≤ g) (h2 : B ≤ mb) (h3 : B ≤ wb) : Below B a w' :=
  Mods.below h k hB (fun b hb => by rcases hb with rfl | rfl | rfl <;> assumption)
theorem Dt_below {g mb wb wh B : Nat} {a w w' : World} (h : Below B a w) (k : Mods (Dt g mb wb wh) w w') (hB : B ≤ w.heap.size) (h1 : B ≤ g) (h2 : B ≤ mb) (h3 : B ≤ wb) (h4 : B ≤ wh) : Below B a w' :=
  Mods.below h k hB (fun b hb => by rcases hb with (rfl | rfl | rfl) | rfl <;> assumption)
set_option maxRecDepth 100000 in
set_option maxHeartbeats 4000000 in
theorem aliveF (w : World) : Calls Try.prog 8 #[] w fun e w' => e = .returned (.bool true) ∧ Below w.heap.size w w' := by
  have NW := Lib.hid (newF 10 (by omega) (by omega) w)
  have C1 : Hid (∀ g rb mb wb w, FS w g rb mb wb 10 z0 → Calls Try.prog 20 #[.pointer (some ⟨g, 0, none⟩), .int .i64 1, .int .i64 4, .int .i64 6] w (fun e w' => e = .returned (.int .i64 0) ∧ FS w' g rb mb wb 10 z1 ∧ Mods (Ft g mb wb) w w')) := fun g rb mb wb w h => by
    have := admS h 1 4 6; unfold CS at this; rw [z1c] at this; exact this
  have C2 : Hid (∀ g rb mb wb w, FS w g rb mb wb 10 z1 → Calls Try.prog 20 #[.pointer (some ⟨g, 0, none⟩), .int .i64 2, .int .i64 7, .int .i64 7] w (fun e w' => e = .returned (.int .i64 61) ∧ FS w' g rb mb wb 10 z2 ∧ Mods (Ft g mb wb) w w')) := fun g rb mb wb w h => by
    have := admS h 2 7 7; unfold CS at this; rw [z2c] at this; exact this
  have C3 : Hid (∀ g rb mb wb w, FS w g rb mb wb 10 z2 → Calls Try.prog 19 #[.pointer (some ⟨g, 0, none⟩), .int .i64 1] w (fun e w' => e = .returned (.tuple #[.int .u32 0, .int .i64 0]) ∧ FS w' g rb mb wb 10 z3 ∧ Mods (Ft g mb wb) w w')) := fun g rb mb wb w h => by
    have := takS h 1; unfold TS at this; rw [z3c, z3x] at this; exact this
  have C4 : Hid (∀ g rb mb wb w, FS w g rb mb wb 10 z3 → Calls Try.prog 25 #[.pointer (some ⟨g, 0, none⟩), .int .i64 1, .int .u32 0] w (fun e w' => e = .returned (.int .i64 0) ∧ FS w' g rb mb wb 10 z4 ∧ Mods (Ft g mb wb) w w')) := fun g rb mb wb w h => by
    have := drpS h 1 0 (by omega); unfold CS at this; rw [z4c] at this; exact this
  have C5 : Hid (∀ g rb mb wb w, FS w g rb mb wb 10 z4 → Calls Try.prog 12 #[.pointer (some ⟨g, 0, none⟩)] w (fun e w' => e = .returned (.int .i64 6) ∧ Below w.heap.size w w')) := fun g rb mb wb w h => by
    have := slackF h; rw [z4s] at this; exact this
  have C6 : Hid (∀ g rb mb wb w, FS w g rb mb wb 10 z4 → Calls Try.prog 17 #[.pointer (some ⟨g, 0, none⟩), .int .i64 1] w (fun e w' => e = .returned (.int .i64 0) ∧ w = w')) := fun g rb mb wb w h => by
    have := chargeOf h 1; rw [z4g] at this; exact this
  go_enter Try.func8, Try.ntmps8
  go_wp2_with fail
  refine NW.out.mono ?_
  rintro e w1 ⟨g, rb, mb, wb, rfl, k1, h1, h2, h3, h4, hb⟩
  have K1 : Hid (FS w1 g rb mb wb 10 z0) := k1
  have B1 := Lib.hid hb
  have HM := Lib.hid (And.intro h1 (And.intro h3 h4))
  clear k1 hb h1 h2 h3 h4 NW
  go_wp2_with fail
  refine (C1.out g rb mb wb _ K1.out).mono ?_
  rintro e w2 ⟨rfl, k, m⟩
  have K2 := Lib.hid k
  have B2 := Lib.hid (Ft_below B1.out m B1.out.size HM.out.1 HM.out.2.1 HM.out.2.2)
  clear k m
  go_wp2_with fail
  refine (C2.out g rb mb wb _ K2.out).mono ?_
  rintro e w3 ⟨rfl, k, m⟩
  have K3 := Lib.hid k
  have B3 := Lib.hid (Ft_below B2.out m B2.out.size HM.out.1 HM.out.2.1 HM.out.2.2)
  clear k m
  go_wp2_with fail
  refine (C3.out g rb mb wb _ K3.out).mono ?_
  rintro e w4 ⟨rfl, k, m⟩
  have K4 := Lib.hid k
  have B4 := Lib.hid (Ft_below B3.out m B3.out.size HM.out.1 HM.out.2.1 HM.out.2.2)
  clear k m
  go_wp2_with fail
  refine (C4.out g rb mb wb _ K4.out).mono ?_
  rintro e w5 ⟨rfl, k, m⟩
  have K5 := Lib.hid k
  have B5 := Lib.hid (Ft_below B4.out m B4.out.size HM.out.1 HM.out.2.1 HM.out.2.2)
  clear k m
  go_wp2_with fail
  refine (C5.out g rb mb wb _ K5.out).mono ?_
  rintro e w6 ⟨rfl, hb⟩
  have K6 := Lib.hid (FD.below K5.out hb)
  have B6 : Hid (Below w.heap.size w w6) := B5.out.trans (hb.mono B5.out.size)
  clear hb
  go_wp2_with fail
  refine (C6.out g rb mb wb _ K6.out).mono ?_
  rintro e w' ⟨rfl, rfl⟩
  go_wp2_with fail
  go_ret
  exact ⟨rfl, B6.out⟩
theorem info41 : (Try.prog.info? 3).map (fun i => (i.zero, i.size, i.bytes)) = some (some (.int .i64 0), 1, 8) := by kernel_rfl
theorem make41 (w : World) (n : Nat) (hn : n ≤ 65536) : (Instr.makeSlice 41 (.int .i64 n) (.int .i64 n)).run Try.prog w = .ok (.slice (some ⟨w.heap.size, 0, none⟩) n n) (w.alloc (.cells (Array.replicate n (.int .i64 0)) 3)) := by
  obtain ⟨i, hi, hz0, hz1, hz2⟩ := info_parts info41
  have h := run_make (P := Try.prog) w 41 3 i (.int .i64 0) Try.underlying41 hi hz0 .i64 .i64 n n (by omega) (by omega) (by rw [hz2]; omega) (by omega)
  simp only [Int.toNat_natCast] at h
  rw [h]
  have hm : madeCells (Value.int .i64 0).cells (n * i.size) = Array.replicate n (.int .i64 0) := by
    rw [hz1, Nat.mul_one]
    unfold madeCells
    apply Array.ext
    · simp
    · intro j h1 h2; simp [Value.cells, Nat.mod_one]
  rw [hm]
/-- A field that nobody has used, and whose each extent is. -/
def BegP (w : World) (N : Nat) (e : Ending) (w' : World) : Prop :=
  ∃ og wh g rb mb wb, e = .returned (.tuple #[.pointer (some ⟨og, 0, none⟩), .bool true]) ∧ OD w' og wh g rb mb wb N z0 (fun _ => 0) ∧ w.heap.size ≤ g ∧ w.heap.size ≤ mb ∧ w.heap.size ≤ wb ∧ w.heap.size ≤ wh ∧ w.heap.size ≤ og ∧ w.heap.size ≤ rb ∧ Below w.heap.size w w'
theorem begin_rows {w w1 : World} {g rb mb wb N : Nat} (k : FS w1 g rb mb wb N z0) (h1 : w.heap.size ≤ g) (h2 : w.heap.size ≤ rb) (h3 : w.heap.size ≤ mb) (h4 : w.heap.size ≤ wb) (hb : Below w.heap.size w w1) :
    BegP w N (.returned (.tuple #[.pointer (some ⟨w1.heap.size + 1, 0, none⟩), .bool true])) ((w1.alloc (.cells (Array.replicate N (.int .i64 0)) 3)).alloc (.cells #[.pointer (some ⟨g, 0, none⟩), .slice (some ⟨w1.heap.size, 0, none⟩) N N] 68)) := by
  have e := heap_alloc_new (w1.alloc (.cells (Array.replicate N (.int .i64 0)) 3)) (.cells #[.pointer (some ⟨g, 0, none⟩), .slice (some ⟨w1.heap.size, 0, none⟩) N N] 68)
  have e2 := heap_alloc_new w1 (.cells (Array.replicate N (.int .i64 0)) 3)
  have hs : (w1.alloc (.cells (Array.replicate N (.int .i64 0)) 3)).heap.size = w1.heap.size + 1 := by simp
  have hm : Below w1.heap.size w1 ((w1.alloc (.cells (Array.replicate N (.int .i64 0)) 3)).alloc (.cells #[.pointer (some ⟨g, 0, none⟩), .slice (some ⟨w1.heap.size, 0, none⟩) N N] 68)) := ((Below.refl _ _).alloc (Nat.le_refl _) _).alloc (by simp) _
  have hsz := hb.size
  rw [hs] at e
  refine ⟨w1.heap.size + 1, w1.heap.size, g, rb, mb, wb, rfl, ⟨e, ⟨Array.replicate N (.int .i64 0), ?_, by simp, fun i hi => by simp [hi]⟩, FD.below k hm⟩, h1, h3, h4, hsz, by omega, h2, (hb.trans (hm.mono hsz))⟩
  rw [(Mods.alloc (S := fun _ => False) (w1.alloc (.cells (Array.replicate N (.int .i64 0)) 3)) _).block w1.heap.size (by simp) id]
  exact e2
set_option maxRecDepth 100000 in
theorem beginC (N : Nat) (hN1 : 1 ≤ N) (hN : N ≤ 2048) (w : World) : Calls Try.prog 26 #[.int .i64 N] w (BegP w N) := by
  have NW := Lib.hid (newF N hN1 hN w)
  have HB : Hid (∀ w1 g rb mb wb, FS w1 g rb mb wb N z0 → w.heap.size ≤ g → w.heap.size ≤ rb → w.heap.size ≤ mb → w.heap.size ≤ wb → Below w.heap.size w w1 → BegP w N (.returned (.tuple #[.pointer (some ⟨w1.heap.size + 1, 0, none⟩), .bool true])) ((w1.alloc (.cells (Array.replicate N (.int .i64 0)) 3)).alloc (.cells #[.pointer (some ⟨g, 0, none⟩), .slice (some ⟨w1.heap.size, 0, none⟩) N N] 68))) :=
    fun w1 g rb mb wb k h1 h2 h3 h4 hb => begin_rows k h1 h2 h3 h4 hb
  have MK : ∀ w : World, (Instr.makeSlice 41 (.int .i64 N) (.int .i64 N)).run Try.prog w = .ok (.slice (some ⟨w.heap.size, 0, none⟩) N N) (w.alloc (.cells (Array.replicate N (.int .i64 0)) 3)) := fun w => make41 w N (by omega)
  clear hN1 hN
  go_enter Try.func26, Try.ntmps26
  go_wp2_with fail
  refine NW.out.mono ?_
  rintro e w1 ⟨g, rb, mb, wb, rfl, k1, h1, h2, h3, h4, hb⟩
  have BP := Lib.hid (HB.out w1 g rb mb wb k1 h1 h2 h3 h4 hb)
  clear k1 h1 h2 h3 h4 hb HB NW
  go_wp2_with fail
  go_ret2
  exact BP.out
end Go.Proofs.Ytjgkochbfjlinaa
