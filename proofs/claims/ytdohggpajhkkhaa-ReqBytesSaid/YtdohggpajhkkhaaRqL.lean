/-
  The contract of req.Decode. Condition: the bytes are at most 10000.
-/
import Derived.Test.YtdohggpajhkkhaaRqK
namespace Go.Proofs.Ytdohggpajhkkhaa
open Go.RowKit
/-- The first byte, the kind, and what is read. -/
def dF (xs : List Int) : Int := numI (got xs false 1)
def dX (xs : List Int) : List Int × Bool := (rst xs false 1, shrt xs.length false 1)
def dK (xs : List Int) : Int := numI (got (dX xs).1 (dX xs).2 1)
def dY (xs : List Int) : List Int × Bool := (rst (dX xs).1 (dX xs).2 1, shrt (dX xs).1.length (dX xs).2 1)
def dA (xs : List Int) : RT := runR (lets (letS (dK xs))) (pz (dK xs), (dY xs).1, (dY xs).2)
def dOk (xs : List Int) : Bool := (dF xs == 82) && (kindB (dK xs) && ((endE (dA xs).2.1 (dA xs).2.2 == 0) && mayB (dA xs).1))
def decP (xs : List Int) : Rq := if dOk xs = true then (dA xs).1 else pz 0
def decE (xs : List Int) : Int := if dOk xs = true then 0 else 70
def DecP (w : World) (xs : List Int) (e : Ending) (w' : World) : Prop :=
  ∃ dv, e = .returned (.tuple #[.agg (rc (decP xs) dv).toArray, .int .i64 (decE xs)]) ∧ RQ (decP xs) ∧ Sees w' dv (decP xs).d ∧ FreshV w.heap.size dv ∧ Below w.heap.size w w'
theorem dY_len (xs : List Int) : (dY xs).1.length ≤ xs.length := Nat.le_trans (rst_len _ _ _) (rst_len _ _ _)
theorem dK_bd {xs : List Int} (h : Byt xs) : 0 ≤ dK xs ∧ dK xs ≤ 255 := by
  have h1 : 0 ≤ dK xs ∧ dK xs < 256 ^ 1 := numI_got _ _ 1 (rst_byt h _ _)
  omega
theorem dF_bd {xs : List Int} (h : Byt xs) : 0 ≤ dF xs ∧ dF xs ≤ 255 := by
  have h1 : 0 ≤ dF xs ∧ dF xs < 256 ^ 1 := numI_got _ _ 1 h
  omega
theorem getV1 (xs : List Int) (s : Bool) : getV (got xs s 1) 0 1 = numI (got xs s 1) := getV_got xs s 1
theorem u8f (g : Nat) (xs : List Int) (w : World) (h : rx.RD w g xs false) : Calls Try.prog 25 #[.pointer (some ⟨g, 0, none⟩)] w fun e w' => e = .returned (.int .u8 (dF xs)) ∧ rx.RD w' g (dX xs).1 (dX xs).2 ∧ w.grownBy w' (some g) :=
  (rx.u8 g xs false w h).mono fun e w' ⟨h1, h2, h3⟩ => ⟨by rw [h1, getV1]; rfl, h2, h3⟩
theorem u8k (g : Nat) (xs : List Int) (w : World) (h : rx.RD w g (dX xs).1 (dX xs).2) : Calls Try.prog 25 #[.pointer (some ⟨g, 0, none⟩)] w fun e w' => e = .returned (.int .u8 (dK xs)) ∧ rx.RD w' g (dY xs).1 (dY xs).2 ∧ w.grownBy w' (some g) :=
  (rx.u8 g _ _ w h).mono fun e w' ⟨h1, h2, h3⟩ => ⟨by rw [h1, getV1]; rfl, h2, h3⟩
theorem below_g {w a b : World} {g : Nat} (h : Below w.heap.size w a) (hg : w.heap.size ≤ g) (hm : a.grownBy b (some g)) : Below w.heap.size w b :=
  h.trans ⟨hm.os, hm.tape, hm.output, hm.size, fun k hk => hm.block k (by have := h.size; omega) (fun e => by have := Option.some.inj e; omega)⟩
theorem below_m {w a b : World} {g : Nat} (h : Below w.heap.size w a) (hg : w.heap.size ≤ g) (hm : Mods (fun k => k = g) a b) : Below w.heap.size w b :=
  h.trans ⟨hm.os, hm.tape, hm.output, hm.size, fun k hk => hm.block k (by have := h.size; omega) (by omega)⟩
theorem zno {xs : List Int} {w w' : World} (h : dOk xs = false) (hb : Below w.heap.size w w') : DecP w xs (.returned (.tuple #[.agg (rc (pz 0) (.slice none 0 0)).toArray, .int .i64 70])) w' := by
  unfold DecP decP decE
  rw [h]
  exact ⟨.slice none 0 0, rfl, pz_ok (by unfold i64; omega), sees_nil _, fun k e => by simp [Value.ownBlock] at e, hb⟩
theorem zyes {xs : List Int} {w w' : World} {dv : Value} (h : dOk xs = true) (hb : Below w.heap.size w w') (hq : RQ (dA xs).1) (hs : Sees w' dv (dA xs).1.d) (hf : FreshV w.heap.size dv) : DecP w xs (.returned (.tuple #[.agg (rc (dA xs).1 dv).toArray, .int .i64 0])) w' := by
  unfold DecP decP decE
  rw [if_pos h, if_pos h]
  exact ⟨dv, rfl, hq, hs, hf, hb⟩
theorem FreshV.mono {a b : Nat} {v : Value} (h : FreshV b v) (hab : a ≤ b) : FreshV a v := fun k e => Nat.le_trans hab (h k e)
theorem b26z (w : World) : (Instr.build 26 #[]).run Try.prog w = .ok (.agg (rc (pz 0) (.slice none 0 0)).toArray) w := by kernel_rfl
theorem wpList_build0_run {ops : Array Oper} {rest : List Oper} {o : Oper} {a : Act} {w : World} {Q : Exit → Act → World → Prop} (hgd : o.guard = none) (t : TypeId)
    (ho : o.op = .build t #[]) {v : Value}
    (hr : (Instr.build t #[]).run Try.prog w = .ok v w) (h : wpList Try.prog ops Q rest (a.put o.dst v) w) : wpList Try.prog ops Q (o :: rest) a w := by
  refine wpList_plain hgd fun K hK => ?_
  unfold Oper.wp execOp
  simp only [ho, Sem.run_bind, Sem.run_pure, Result.andThen_ok, List.map_toArray, List.map_nil, hr]
  exact hK _ _ h
theorem results_ct {fn : Func} {p q : Tmp} {ty : TypeId} (h : fn.results = #[.cell p ty, .tmp q]) (tmps : Array Value) (w : World) (g : Nat) (t : TypeId) (cs : Array Value) (fr : Nat × Nat) (d : TypeDesc) (y : Value)
    (hp : tmps.getD p undef = .pointer (some ⟨g, 0, none⟩)) (hy : tmps.getD q undef = y) (hg : w.heap[g]? = some (.cells cs t fr))
    (hu : Try.prog.underlying ty = some d) (hd : ∃ fs, d = .struct fs) (hi : (Try.prog.info? ty).map (·.size) = some cs.size) :
    (results fn tmps).run Try.prog w = .ok (.tuple #[.agg cs, y]) w := by
  obtain ⟨fs, rfl⟩ := hd
  rw [← hy]
  exact results_cell_tmp h tmps w g t cs fr _ hp hg hu rfl hi
/-- What stands behind the reading: the result's block, the request's. -/
def MidP (w : World) (xs : List Int) (Z C : Array Value) (q r : Nat) (dv : Value) (W : World) : Prop :=
  C = (rc (dA xs).1 dv).toArray ∧ RTok (dA xs) ∧ W.heap[w.heap.size]? = some (.cells Z 26 (0, 0)) ∧ W.heap[r]? = some (.cells C 26 (0, 0)) ∧ w.heap.size < r ∧ rx.RD W q (dA xs).2.1 (dA xs).2.2 ∧ Sees W dv (dA xs).1.d ∧ FreshV (w.heap.size + 1) dv ∧ Below w.heap.size w W
end Go.Proofs.Ytdohggpajhkkhaa
