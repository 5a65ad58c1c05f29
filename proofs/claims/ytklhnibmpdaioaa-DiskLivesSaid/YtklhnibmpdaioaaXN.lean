/-
  One call on both disks answers alike, whatever its kind; an op with its keep in memory. Condition: both lie in memory and are equal.
-/
import Derived.Test.YtklhnibmpdaioaaXM
namespace Go.Proofs.Ytklhnibmpdaioaa.diskLives
open Go.ChangeShapes Go.WideShapes Go.ChangeAt Go.RowKit
/-- A text in memory. -/
def KF (w : World) (x : Option Addr) (l : Nat) (f : Nat → Int) : Prop := ∀ j, j < l → 0 ≤ f j ∧ f j ≤ 255 ∧ ∃ b o, x = some ⟨b, o, none⟩ ∧ b < w.heap.size ∧ w.cell? ⟨b, o + j, none⟩ = some (.int .u8 (f j))
section
variable {w0 w : World} {g N sb hb q j : Nat}
theorem oneAll (h : OneS w0 g N sb hb q j w) (hj : j ≤ 1000) (kd : Int) (s y : Nat) (n : Int) (x : Option Addr) (l c : Nat) (hs : s < 4294967296) (hy : y < 256) (hn : -9223372036854775808 ≤ n ∧ n ≤ 9223372036854775807) (hl : l ≤ maxLen) (f : Nat → Int) (hx : KF w0 x l f) :
    Calls Try.prog 17 #[.pointer (some ⟨g, 0, none⟩), .pointer (some ⟨q, 0, none⟩), .agg #[.int .i64 kd, .int .u32 s, .int .u8 y, .int .i64 n, .slice x l c]] w fun e w' => e = .returned (.bool true) ∧ OneS w0 g N sb hb q (j + 1) w' := by
  have hl2 : l ≤ 9223372036854775807 := by unfold maxLen at hl; omega
  by_cases k0 : kd = 0
  · subst k0; exact one0 h hj s y n x l c hs hy
  by_cases k1 : kd = 1
  · subst k1; exact one1 h hj s y n x l c hs
  by_cases k2 : kd = 2
  · subst k2; exact one2 h hj s y n x l c
  by_cases k3 : kd = 3
  · subst k3; exact one3 h hj s y n x l c
  by_cases k4 : kd = 4
  · subst k4
    by_cases hneg : n < 0
    · exact one4neg h hj s y n x l c hneg
    · obtain ⟨m, rfl⟩ : ∃ m : Nat, n = m := ⟨n.toNat, by omega⟩
      exact one4 h hj s y m x l c (by omega)
  by_cases k5 : kd = 5
  · subst k5; exact one5 h hj s y n x l c f hl2 hx
  by_cases k6 : kd = 6
  · subst k6; exact one6 h hj s y n x l c hs hy
  exact onez h hj kd s y n x l c ⟨k0, k1, k2, k3, k4, k5, k6⟩
theorem greatX (k : Int) (s y : Nat) (n : Int) (x : Option Addr) (l c : Nat) (hl : l ≤ maxLen) (w : World) : Calls Try.prog 15 #[.agg #[.int .i64 k, .int .u32 s, .int .u8 y, .int .i64 n, .slice x l c]] w fun e w' => e = .returned (.bool (decide (100 < l))) ∧ Below w.heap.size w w' := by
  have hl2 : (l : Int) ≤ 9223372036854775807 := by unfold maxLen at hl; omega
  by_cases h : 100 < l
  · rw [decide_eq_true h]
    have h2 : (100 : Int) < l := by omega
    go_enter Try.func15, Try.ntmps15
    go_wp2_with fail
    go_ret
    exact ⟨rfl, (Below.refl _ _).alloc (Nat.le_refl _) _⟩
  · rw [decide_eq_false h]
    have h2 : ¬ (100 : Int) < l := by omega
    go_enter Try.func15, Try.ntmps15
    go_wp2_with fail
    go_ret
    exact ⟨rfl, (Below.refl _ _).alloc (Nat.le_refl _) _⟩
end
section
variable {w0 w : World} {g N sb hb : Nat} {wv : Value} {su : Nat → Option Nat} {ws : List (Nat × Nat)} {rg : List Value} {c p : Int} {d : Bool} {K q : Nat} {lv : Value} {L : List (Nat × Nat × Bool)} {rb : Nat}
/-- What is sure of a sector, asked of both. -/
theorem surePair (h : ST w0 w g N sb hb wv su ws rg c p d K q lv L rb) (hL : L.length ≤ 1000000) (s : Nat) (hs : s < 4294967296) : ∃ r : Int, Calls Try.prog 23 #[.pointer (some ⟨g, 0, none⟩), .int .u32 s] w fun e w2 => ∃ x n k, e = .returned (.tuple #[.slice x n k, .int .i64 r]) ∧ Below w.heap.size w w2 ∧
    Calls Try.prog 24 #[.pointer (some ⟨q, 0, none⟩), .int .u32 s, .bool true] w2 fun e w4 => ∃ x' n' k' st, e = .returned (.tuple #[.slice x' n' k', .int .i64 r]) ∧ Below w2.heap.size w2 w4 ∧ ∀ W, Below w4.heap.size w4 W → (convert 32 9 (.slice x n k)).run Try.prog W = .ok (.string st) W ∧ (convert 32 9 (.slice x' n' k')).run Try.prog W = .ok (.string st) W := by
  by_cases e2 : s < N
  · refine ⟨0, (sureD_ok h.lk.dk s e2).mono ?_⟩
    rintro e w2 ⟨b, rfl, m1, _, m3⟩
    refine ⟨_, _, _, rfl, m3, (sureX (h.xd.below m3) hL s e2 true).mono ?_⟩
    rintro e w4 ⟨v', rfl, t4, b4⟩
    rw [← h.rl.s s] at t4
    have t2 : TY w4 (.slice (some ⟨b, 0, none⟩) 512 512) (padT (su s)) := by
      have hl : (padT (su s)).length = 512 := by rw [padT_getD, tx_len]
      have hx : TX w2 (.slice (some ⟨b, 0, none⟩) 512 512) (padT (su s)) := ⟨b, by rw [hl], m1⟩
      exact ((hx.ty (by rw [hl]; decide)).mods (Mods.of_below b4 (S := fun _ => False)) (fun _ _ _ => id))
    have s2 := fun W (hW : Below w4.heap.size w4 W) => str_ty (t2.mods (Mods.of_below hW (S := fun _ => False)) (fun _ _ _ => id))
    have s4 := fun W (hW : Below w4.heap.size w4 W) => str_ty (t4.mods (Mods.of_below hW (S := fun _ => False)) (fun _ _ _ => id))
    obtain ⟨_, _, _, rfl, _⟩ := t4
    exact ⟨_, _, _, _, rfl, b4, fun W hW => ⟨s2 W hW, s4 W hW⟩⟩
  · refine ⟨31, (sureD_err h.lk.dk s e2).mono ?_⟩
    rintro e w2 ⟨rfl, rfl⟩
    refine ⟨_, _, _, rfl, Below.refl _ _, (sureX_no h.xd s hs e2 true).mono ?_⟩
    rintro e w4 ⟨rfl, rfl⟩
    have hst : ∀ W : World, (convert 32 9 (.slice none 0 0)).run Try.prog W = .ok (.string ByteArray.empty) W := fun W => run_convert_bytes_nil W 32 5 Try.underlying32 Try.underlying5 0 0 9 Try.underlying9
    exact ⟨_, _, _, _, rfl, Below.refl _ _, fun W _ => ⟨hst W, hst W⟩⟩
theorem str_rg {b : Nat} {t : TypeId} {zs : List Nat} (hl : zs.length = 64) (h : w.heap[b]? = some (.cells (zs.map (fun z : Nat => Value.int .u8 (z : Int))).toArray t (0, 0))) : (convert 32 9 (.slice (some ⟨b, 0, none⟩) 64 64)).run Try.prog w = .ok (.string (strOfNums (zs.map fun n : Nat => (n : Int)))) w :=
  run_convert_bytes_arg w 32 5 Try.underlying32 Try.underlying5 b 0 64 64 (zs.map fun n : Nat => (n : Int)) (by rw [List.length_map, hl]) (fun i hi => by
    have hx : zs[i]? = some zs[i] := List.getElem?_eq_getElem (by omega)
    rw [cell_of_row _ _ _ _ _ _ h, Nat.zero_add, List.getElem?_toArray, List.getElem?_map, hx, List.getD_eq_getElem?_getD, List.getElem?_map, hx]
    rfl) 9 Try.underlying9
/-- The register, asked of both. -/
theorem regPair (hr : Rg rg) {a : Nat} (h : XD w q N lv L rb rg c p d) (h2 : w.heap[a]? = some (.cells rg.toArray 44 (0, 0))) : ∃ st, ∀ W, Below w.heap.size w W → (convert 32 9 (.slice (some ⟨a, 0, none⟩) 64 64)).run Try.prog W = .ok (.string st) W ∧ (convert 32 9 (.slice (some ⟨rb, 0, none⟩) 64 64)).run Try.prog W = .ok (.string st) W := by
  obtain ⟨zs, rfl, hl⟩ := hr
  obtain ⟨t, ht, _⟩ := h.reg
  exact ⟨_, fun W hW => ⟨str_rg hl ((hW.block a (Array.getElem?_eq_some_iff.1 h2).1).trans h2), str_rg hl ((hW.block rb (Array.getElem?_eq_some_iff.1 ht).1).trans ht)⟩⟩
end
/-- Ops in memory. -/
def OS3 (w : World) (x : Option Addr) (l : Nat) : Prop := l ≤ maxLen ∧ ∀ i, i < l → ∃ (k : Int) (s y : Nat) (n : Int) (x' : Option Addr) (l' c' b o : Nat) (f : Nat → Int), x = some ⟨b, o, none⟩ ∧ b < w.heap.size ∧ s < 4294967296 ∧ y < 256 ∧ (-9223372036854775808 ≤ n ∧ n ≤ 9223372036854775807) ∧ l' ≤ maxLen ∧ KF w x' l' f ∧
  w.cell? ⟨b, o + i * 5, none⟩ = some (.int .i64 k) ∧ w.cell? ⟨b, o + i * 5 + 1, none⟩ = some (.int .u32 s) ∧ w.cell? ⟨b, o + i * 5 + 2, none⟩ = some (.int .u8 y) ∧ w.cell? ⟨b, o + i * 5 + 3, none⟩ = some (.int .i64 n) ∧ w.cell? ⟨b, o + i * 5 + 4, none⟩ = some (.slice x' l' c')
section
variable {H : Type} {enc : TypeId × Value → H} {w : World} {base : Nat} {n : Nat} {x : DataW H × List MemPlace}
set_option maxRecDepth 100000 in
theorem keep_cells {v : Value} {fuel : Nat} (hf : DataW.trod enc Try.prog w base (fun _ => true) true fuel 32 [v] = some x) : ∃ (x' : Option Addr) (l' c' : Nat) (f : Nat → Int), v = .slice x' l' c' ∧ l' ≤ maxLen ∧ KF w x' l' f := by
  rcases Go.Deep.open_slice Try.underlying32 hf with ⟨hc, _⟩ | ⟨a, len, cap, m, n, D, Pl, hc, _, hl, hm, hmm, hx, hi⟩
  · simp only [List.cons.injEq, and_true] at hc
    exact ⟨none, 0, 0, fun _ => 0, hc, Nat.zero_le _, fun i h => by omega⟩
  · simp only [List.cons.injEq, and_true] at hc
    rw [if_pos rfl] at hmm
    have each : ∀ i, i < len → ∃ (z b o : Nat), z < 256 ∧ a = ⟨b, o, none⟩ ∧ b < w.heap.size ∧ w.cell? ⟨b, o + i, none⟩ = some (.int .u8 z) := fun i hil => by
      obtain ⟨cs', h1, h2⟩ := hi i (by omega)
      rw [cells5', Nat.mul_one] at h1
      obtain ⟨_, hcl, hat⟩ := World.cells?_some h1
      obtain ⟨z0, e0, _, w0⟩ := DataW.trod_int Try.underlying5 h2
      have b0 := bounds_u8 w0
      obtain ⟨z, rfl⟩ : ∃ z : Nat, z0 = z := ⟨z0.toNat, by omega⟩
      have h6 := hat 0 (by omega)
      rw [e0] at h6
      obtain ⟨b, o, spot⟩ := a
      have h7 : w.cell? ((⟨b, o, spot⟩ : Addr).add i) = some (.int .u8 z) := by
        rw [Go.Deep.add_add, Nat.add_zero] at h6
        exact h6
      obtain ⟨cs0, p1, p2⟩ := hi 0 (by omega)
      rw [cells5', Nat.mul_one] at p1
      obtain ⟨_, _, hat0⟩ := World.cells?_some p1
      obtain ⟨y0, e1, _, _⟩ := DataW.trod_int Try.underlying5 p2
      have q0 := hat0 0 (by omega)
      rw [e1] at q0
      have hspot : spot = none := by simpa [Addr.add] using World.cell?_spot q0
      subst hspot
      rw [addr_add] at h7
      exact ⟨z, b, o, by omega, rfl, World.block_lt_of_cell? w _ h7, h7⟩
    refine ⟨some a, len, cap, fun j => if h : j < len then (Classical.choose (each j h) : Nat) else (0 : Int), hc, by omega, fun j hj => ?_⟩
    simp only [dif_pos hj]
    obtain ⟨b, o, h1, h2, h3, h4⟩ := Classical.choose_spec (each j hj)
    exact ⟨by omega, by omega, b, o, by rw [h2], h3, h4⟩
set_option maxRecDepth 100000 in
theorem op_cells3 {cs : List Value} {fuel : Nat} (hf : DataW.trod enc Try.prog w base (fun _ => true) true fuel 34 cs = some x) : ∃ (k : Int) (s y : Nat) (n : Int) (x : Option Addr) (l c : Nat) (f : Nat → Int), cs = [.int .i64 k, .int .u32 s, .int .u8 y, .int .i64 n, .slice x l c] ∧ s < 4294967296 ∧ y < 256 ∧ (-9223372036854775808 ≤ n ∧ n ≤ 9223372036854775807) ∧ l ≤ maxLen ∧ KF w x l f := by
  obtain ⟨k, s, y, n', x1, l, c, rfl, hs, hy, hn, hl⟩ := op_cells hf
  obtain ⟨xs, m, _, _, hl2, hlen, hg⟩ := DataW.trod_struct Try.underlying34 hf
  match xs, hlen with
  | [y0, y1, y2, y3, y4], _ =>
    have g4 : DataW.trod enc Try.prog w base (fun _ => true) true m 32 [.slice x1 l c] = some y4 := by simpa [cells32] using hg 4 _ rfl
    obtain ⟨x', l', c', f, e, h1, h2⟩ := keep_cells g4
    injection e with e1 e2 e3
    subst e1 e2 e3
    exact ⟨k, s, y, n', x1, l, c, f, rfl, hs, hy, hn, hl, h2⟩
end
set_option maxRecDepth 100000 in
theorem open_os3 {H : Type} {enc : TypeId × Value → H} {w : World} {r : Reach} {b0 base : Nat} {v : Value} {d : DataW H} {ps : List MemPlace}
    (hval : Value.okWide Try.prog w r b0 22 v) (hd : DataW.Trod enc Try.prog w base (fun _ => true) true 22 v d ps) : ∃ (x : Option Addr) (l c : Nat), v = .slice x l c ∧ OS3 w x l := by
  obtain ⟨fuel, hf⟩ := hd
  obtain ⟨x', l', k', rfl⟩ := okWide_slice Try.underlying22 hval
  refine ⟨x', l', k', rfl, ?_⟩
  rcases Go.Deep.open_slice Try.underlying22 hf with ⟨hc, _⟩ | ⟨a, len, cap, m, n, D, Pl, hc, _, hl, hm, hmm, hx, hi⟩
  · simp [Value.cells] at hc
    obtain ⟨rfl, rfl, rfl⟩ := hc
    exact ⟨Nat.zero_le _, fun i h => by omega⟩
  · simp [Value.cells] at hc
    obtain ⟨rfl, rfl, rfl⟩ := hc
    rw [if_pos rfl] at hmm
    refine ⟨by omega, fun i hil => ?_⟩
    obtain ⟨cs', h1, h2⟩ := hi i (by omega)
    rw [cells34] at h1
    obtain ⟨k, s, y, n', x, l, c, f, rfl, hs, hy, hn', hlm, hkf⟩ := op_cells3 h2
    obtain ⟨_, hcl, hat⟩ := World.cells?_some h1
    have g : ∀ (j : Nat) (u : Value), j < 5 → ([.int .i64 k, .int .u32 s, .int .u8 y, .int .i64 n', .slice x l c] : List Value)[j]? = some u → w.cell? (a.add (i * 5 + j)) = some u := fun j u hj hu => by
      have h6 := hat j hj
      rw [hu] at h6
      rw [← Go.Deep.add_add, h6]
    have g0 := g 0 _ (by omega) rfl
    have g1 := g 1 _ (by omega) rfl
    have g2 := g 2 _ (by omega) rfl
    have g3 := g 3 _ (by omega) rfl
    have g4 := g 4 _ (by omega) rfl
    obtain ⟨cs0, p1, p2⟩ := hi 0 (by omega)
    rw [cells34] at p1
    obtain ⟨_, _, _, _, _, _, _, rfl, _, _, _, _⟩ := op_cells p2
    obtain ⟨_, _, hat0⟩ := World.cells?_some p1
    have q0 := hat0 0 (by omega)
    rw [Go.Deep.add_add] at q0
    obtain ⟨b, o, spot⟩ := a
    have hspot : spot = none := by simpa [Addr.add] using World.cell?_spot q0
    subst hspot
    rw [addr_add, ← Nat.add_assoc] at g0 g1 g2 g3 g4
    exact ⟨k, s, y, n', x, l, c, b, o, f, rfl, World.block_lt_of_cell? w _ g0, hs, hy, hn', hlm, hkf, g0, g1, g2, g3, g4⟩
end Go.Proofs.Ytklhnibmpdaioaa.diskLives
