/-
  Two fields beside each other, each with a slice of its extents. Condition: none.
-/
import Derived.Test.YtjgkochbfjlinaaX
import Derived.Deep.Grids
import Derived.OwnWalk
namespace Go.Proofs.Ytjgkochbfjlinaa
open Go.ChangeShapes Go.WideShapes Go.ChangeAt Go.RowKit Go.Deep
/-- Two fields, and a slice for each. -/
structure AS (B : Nat) (w : World) (M og wh g rb mb wb og' wh' g' rb' mb' wb' : Nat) (s s' : St) (W W' : Nat → Int) (m m' : List Nat) (x x' : Option Addr) (c c' : Nat) : Prop where
  o : OD w og wh g rb mb wb 40 s W
  o' : OD w og' wh' g' rb' mb' wb' 40 s' W'
  ls : LS w B x c m
  ls' : LS w B x' c' m'
  ap : ∀ k, ob x k → ¬ ob x' k
  lo : og < M ∧ wh < M ∧ g < M ∧ rb < M ∧ mb < M ∧ wb < M
  hi : M ≤ og' ∧ M ≤ wh' ∧ M ≤ g' ∧ M ≤ rb' ∧ M ≤ mb' ∧ M ≤ wb'
  fr : B ≤ og ∧ B ≤ wh ∧ B ≤ g ∧ B ≤ rb ∧ B ≤ mb ∧ B ≤ wb
  fr' : B ≤ M
  sz : B ≤ w.heap.size
section
variable {B : Nat} {w w' : World} {M og wh g rb mb wb og' wh' g' rb' mb' wb' : Nat} {s s' t : St} {W W' V : Nat → Int} {m m' k : List Nat} {x x' y : Option Addr} {c c' d : Nat}
theorem AS.below (h : AS B w M og wh g rb mb wb og' wh' g' rb' mb' wb' s s' W W' m m' x x' c c') (hb : Below w.heap.size w w') : AS B w' M og wh g rb mb wb og' wh' g' rb' mb' wb' s s' W W' m m' x x' c c' :=
  ⟨h.o.below hb, h.o'.below hb, h.ls.below hb, h.ls'.below hb, h.ap, h.lo, h.hi, h.fr, h.fr', Nat.le_trans h.sz hb.size⟩
theorem AS.heap (h : AS B w M og wh g rb mb wb og' wh' g' rb' mb' wb' s s' W W' m m' x x' c c') (e : w'.heap = w.heap) (e1 : w'.os = w.os) (e2 : w'.tape = w.tape) (e3 : w'.output = w.output) : AS B w' M og wh g rb mb wb og' wh' g' rb' mb' wb' s s' W W' m m' x x' c c' :=
  h.below ⟨e1, e2, e3, by rw [e]; exact Nat.le_refl _, fun b _ => by rw [e]⟩
theorem AS.turn (h : AS B w M og wh g rb mb wb og' wh' g' rb' mb' wb' s s' W W' m m' x x' c c') (o : OD w' og wh g rb mb wb 40 t V) (k : Mods (Dt g mb wb wh) w w') : AS B w' M og wh g rb mb wb og' wh' g' rb' mb' wb' t s' V W' m m' x x' c c' := by
  have lo := h.lo
  have hi := h.hi
  refine ⟨o, h.o'.mods k ?_ ?_ ?_ ?_ ?_ ?_, h.ls.mods k (fun b hb => ?_), h.ls'.mods k (fun b hb => ?_), h.ap, lo, hi, h.fr, h.fr', Nat.le_trans h.sz k.size⟩
  iterate 6 (unfold Dt; omega)
  · have := h.ls.od h.o b hb; unfold Dt; omega
  · have := h.ls'.od h.o b hb; unfold Dt; omega
theorem AS.turn' (h : AS B w M og wh g rb mb wb og' wh' g' rb' mb' wb' s s' W W' m m' x x' c c') (o : OD w' og' wh' g' rb' mb' wb' 40 t V) (k : Mods (Dt g' mb' wb' wh') w w') : AS B w' M og wh g rb mb wb og' wh' g' rb' mb' wb' s t W V m m' x x' c c' := by
  have lo := h.lo
  have hi := h.hi
  refine ⟨h.o.mods k ?_ ?_ ?_ ?_ ?_ ?_, o, h.ls.mods k (fun b hb => ?_), h.ls'.mods k (fun b hb => ?_), h.ap, lo, hi, h.fr, h.fr', Nat.le_trans h.sz k.size⟩
  iterate 6 (unfold Dt; omega)
  · have := h.ls.od h.o' b hb; unfold Dt; omega
  · have := h.ls'.od h.o' b hb; unfold Dt; omega
theorem AS.below1 (h : AS B w M og wh g rb mb wb og' wh' g' rb' mb' wb' s s' W W' m m' x x' c c') {a : World} (hb : Below B a w) (k : Mods (Dt g mb wb wh) w w') : Below B a w' :=
  Dt_below hb k h.sz h.fr.2.2.1 h.fr.2.2.2.2.1 h.fr.2.2.2.2.2 h.fr.2.1
theorem AS.below2 (h : AS B w M og wh g rb mb wb og' wh' g' rb' mb' wb' s s' W W' m m' x x' c c') {a : World} (hb : Below B a w) (k : Mods (Dt g' mb' wb' wh') w w') : Below B a w' :=
  have hi := h.hi
  have f := h.fr'
  Dt_below hb k h.sz (by omega) (by omega) (by omega) (by omega)
/-- The first slice is turned. -/
theorem AS.ls1 (h : AS B w M og wh g rb mb wb og' wh' g' rb' mb' wb' s s' W W' m m' x x' c c') (l : LS w' B y d k) (hm : Mods (ob x) w w') (hn : ∀ j, ob y j → ob x j ∨ w.heap.size ≤ j) : AS B w' M og wh g rb mb wb og' wh' g' rb' mb' wb' s s' W W' k m' y x' d c' := by
  have q := fun b hb => h.ls.od h.o b hb
  have q' := fun b hb => h.ls.od h.o' b hb
  refine ⟨h.o.mods hm (fun e => ((q _ e).1 rfl)) (fun e => ((q _ e).2.1 rfl)) (fun e => ((q _ e).2.2.1 rfl)) (fun e => ((q _ e).2.2.2.1 rfl)) (fun e => ((q _ e).2.2.2.2.1 rfl)) (fun e => ((q _ e).2.2.2.2.2 rfl)),
    h.o'.mods hm (fun e => ((q' _ e).1 rfl)) (fun e => ((q' _ e).2.1 rfl)) (fun e => ((q' _ e).2.2.1 rfl)) (fun e => ((q' _ e).2.2.2.1 rfl)) (fun e => ((q' _ e).2.2.2.2.1 rfl)) (fun e => ((q' _ e).2.2.2.2.2 rfl)),
    l, h.ls'.mods hm (fun b hb hb2 => h.ap b hb2 hb), fun j hj hj2 => ?_, h.lo, h.hi, h.fr, h.fr', Nat.le_trans h.sz hm.size⟩
  rcases hn j hj with h1 | h1
  · exact h.ap j h1 hj2
  · have := (h.ls'.lt j hj2).1; omega
theorem AS.ls2 (h : AS B w M og wh g rb mb wb og' wh' g' rb' mb' wb' s s' W W' m m' x x' c c') (l : LS w' B y d k) (hm : Mods (ob x') w w') (hn : ∀ j, ob y j → ob x' j ∨ w.heap.size ≤ j) : AS B w' M og wh g rb mb wb og' wh' g' rb' mb' wb' s s' W W' m k x y c d := by
  have q := fun b hb => h.ls'.od h.o b hb
  have q' := fun b hb => h.ls'.od h.o' b hb
  refine ⟨h.o.mods hm (fun e => ((q _ e).1 rfl)) (fun e => ((q _ e).2.1 rfl)) (fun e => ((q _ e).2.2.1 rfl)) (fun e => ((q _ e).2.2.2.1 rfl)) (fun e => ((q _ e).2.2.2.2.1 rfl)) (fun e => ((q _ e).2.2.2.2.2 rfl)),
    h.o'.mods hm (fun e => ((q' _ e).1 rfl)) (fun e => ((q' _ e).2.1 rfl)) (fun e => ((q' _ e).2.2.1 rfl)) (fun e => ((q' _ e).2.2.2.1 rfl)) (fun e => ((q' _ e).2.2.2.2.1 rfl)) (fun e => ((q' _ e).2.2.2.2.2 rfl)),
    h.ls.mods hm (fun b hb hb2 => h.ap b hb hb2), l, fun j hj hj2 => ?_, h.lo, h.hi, h.fr, h.fr', Nat.le_trans h.sz hm.size⟩
  rcases hn j hj2 with h1 | h1
  · exact h.ap j hj h1
  · have := (h.ls.lt j hj).1; omega
theorem ob_below {a : World} (h : Below B a w) (hm : Mods (ob x) w w') (hB : B ≤ w.heap.size) (hl : LS w B x c m) : Below B a w' :=
  Mods.below h hm hB (fun b hb => (hl.lt b hb).2)
end
/-- A slice of Booleans. -/
def BLs (w : World) (x : Option Addr) (l : Nat) : Prop := l ≤ maxLen ∧ ∀ i, i < l → ∃ (g o : Nat) (b : Bool), x = some ⟨g, o, none⟩ ∧ g < w.heap.size ∧ w.cell? ⟨g, o + i, none⟩ = some (.bool b)
theorem BLs.below {w w' : World} {x : Option Addr} {l : Nat} (h : BLs w x l) (hb : Below w.heap.size w w') : BLs w' x l := by
  refine ⟨h.1, fun i hi => ?_⟩
  obtain ⟨g, o, b, e, hg, c⟩ := h.2 i hi
  exact ⟨g, o, b, e, by have := hb.size; omega, (hb.cell (p := ⟨g, o + i, none⟩) hg).trans c⟩
theorem cells4' : Try.prog.cellsOf 4 = 1 := by kernel_rfl
set_option maxRecDepth 100000 in
theorem open_bl {H : Type} {enc : TypeId × Value → H} {w : World} {r : Reach} {b0 base : Nat} {v : Value} {d : DataW H} {ps : List MemPlace}
    (hval : Value.okWide Try.prog w r b0 70 v) (hd : DataW.Trod enc Try.prog w base (fun _ => true) true 70 v d ps) : ∃ (x : Option Addr) (l c : Nat), v = .slice x l c ∧ BLs w x l := by
  obtain ⟨fuel, hf⟩ := hd
  obtain ⟨x', l', k', rfl⟩ := okWide_slice Try.underlying70 hval
  refine ⟨x', l', k', rfl, ?_⟩
  rcases open_bools Try.underlying70 Try.underlying4 cells4' hf with ⟨hc, _⟩ | ⟨a, len, cap, D, hc, _, hl, hm, _, hi⟩
  · simp [Value.cells] at hc
    obtain ⟨rfl, rfl, rfl⟩ := hc
    exact ⟨Nat.zero_le _, fun i h => by omega⟩
  · simp [Value.cells] at hc
    obtain ⟨rfl, rfl, rfl⟩ := hc
    refine ⟨by omega, fun i hil => ?_⟩
    have q := hi i (by omega)
    have q0 := hi 0 (by omega)
    obtain ⟨b, o, spot⟩ := a
    have hspot : spot = none := by simpa [Addr.add] using World.cell?_spot q0
    subst hspot
    rw [addr_add] at q
    exact ⟨b, o, _, rfl, World.block_lt_of_cell? w _ q, q⟩
theorem u8_and15 (m : Nat) (hm : m < 256) : ∃ k : Nat, bits .and .u8 (m : Int) 15 = (k : Int) ∧ k ≤ 15 := by
  refine ⟨m &&& 15, ?_, Nat.and_le_right⟩
  show IntKind.u8.wrap ((BitVec.ofInt 8 (m : Int) &&& BitVec.ofInt 8 ((15 : Nat) : Int)).toNat : Int) = _
  rw [BitVec.toNat_and, BitVec.ofInt_natCast, BitVec.ofInt_natCast, BitVec.toNat_ofNat, BitVec.toNat_ofNat, Nat.mod_eq_of_lt hm, Nat.mod_eq_of_lt (by decide : 15 < 2 ^ 8)]
  have h := Nat.and_le_right (n := m) (m := 15)
  generalize m &&& 15 = z at *
  have : IntKind.u8.wrap (z : Int) = (z : Int) % 256 := by simp [IntKind.wrap, IntKind.bits, IntKind.signed]
  rw [this]
  omega
theorem wpList_appK {P : Program} (T : TypeId) {ops : Array Oper} {rest : List Oper} {o : Oper} {a : Act} {w : World} {Q : Exit → Act → World → Prop} (hgd : o.guard = none) (s x : Operand)
    (ho : o.op = .call { callee := .builtin .append, args := #[s, x], argTypes := #[T, T] }) (hty : o.type = T) {v u v' : Value} {w' : World} (hs : a.eval s = v) (hx : a.eval x = u)
    (hr : (Builtin.append_ #[T, T] T #[v, u]).run P w = .ok v' w') (h : wpList P ops Q rest (a.put o.dst v') w') : wpList P ops Q (o :: rest) a w := by
  refine wpList_plain hgd fun K hK => ?_
  unfold Oper.wp execOp
  simp only [ho, hty, resolve, invoke, builtin, Sem.run_bind, Sem.run_pure, Result.andThen_ok, List.map_toArray, List.map_cons, List.map_nil, hs, hx, hr]
  exact hK _ _ h
theorem size71 (W : World) : (sizeOf (Try.prog.elem 71)).run Try.prog W = .ok 1 W := by kernel_rfl
theorem sl_hm (g n c k : Nat) (hk : k ≤ c) (W : World) : (Instr.slice 71 (.slice (some ⟨g, 0, none⟩) n c) none (some (.int .i64 k)) (some (.int .i64 k))).run Try.prog W = .ok (.slice (some ⟨g, 0, none⟩) k k) W := by
  rw [run_slice_hm W 71 (some ⟨g, 0, none⟩) n c (by kernel_rfl) .i64 .i64 k k (by omega) (by omega) (by omega), size71]
  simp only [Result.andThen, sliced, Int.toNat_natCast]
  by_cases e : k = 0
  · simp [e]
  · simp [e, addr_add]
theorem sl_lo (g n c k : Nat) (hk : k ≤ n) (W : World) : (Instr.slice 71 (.slice (some ⟨g, 0, none⟩) n c) (some (.int .i64 k)) none none).run Try.prog W = .ok (.slice (some (if c = k then ⟨g, 0, none⟩ else ⟨g, k, none⟩)) (n - k) (c - k)) W := by
  rw [run_slice_l W 71 (some ⟨g, 0, none⟩) n c (by kernel_rfl) .i64 k (by omega) (by omega), size71]
  simp only [Result.andThen, sliced, Int.toNat_natCast, Nat.mul_one]
  by_cases e : c = k
  · simp [e]
  · simp [e, addr_add]
end Go.Proofs.Ytjgkochbfjlinaa
