/-
  The document's disk in memory: New, there, Waits, change, Copy, Shown, Sure, Read. Condition: none.
-/
import Derived.Test.YtklhnibmpdaioaaXA
import Derived.Test.YtklhnibmpdaioaaDSh
namespace Go.Proofs.Ytklhnibmpdaioaa
open Go.RowKit
/-- A text, which may have room behind it. -/
def TY (w : World) (v : Value) (xs : List Nat) : Prop := ∃ (b c : Nat) (cs : Array Value), v = .slice (some ⟨b, 0, none⟩) xs.length c ∧ w.heap[b]? = some (.cells cs 5 (0, 0)) ∧ xs.length ≤ c ∧ c ≤ maxLen ∧ ∀ (i y : Nat), xs[i]? = some y → cs[i]? = some (Value.int .u8 (y : Int))
/-- The document's writes, as cells. -/
def XS (w : World) : List (Nat × Nat × Bool) → List Value → Prop
  | [], vs => vs = []
  | (s, y, b) :: r, vs => ∃ v vs', vs = .int .u32 s :: v :: .bool b :: vs' ∧ TY w v (tx y) ∧ s < 65536 ∧ y < 256 ∧ XS w r vs'
/-- The document's disk. -/
structure XD (w : World) (q N : Nat) (lv : Value) (L : List (Nat × Nat × Bool)) (rb : Nat) (rg : List Value) (c p : Int) (d : Bool) : Prop where
  n1 : 1 ≤ N
  n2 : N ≤ 65536
  row : w.heap[q]? = some (.cells #[.int .i64 N, lv, .slice (some ⟨rb, 0, none⟩) 64 64, .int .i64 c, .int .i64 p, .bool d] 40 (0, 0))
  lst : ∃ vs, Rw w 92 3 lv L.length vs ∧ XS w L vs
  reg : ∃ t, w.heap[rb]? = some (.cells rg.toArray t (0, 0)) ∧ (t = 5 ∨ t = 44)
  len : rg.length = 64
def Xt (q : Nat) (lv : Value) : Nat → Prop := fun k => k = q ∨ lv.ownBlock = some k
section
variable {w w' : World} {q N rb : Nat} {lv v : Value} {L : List (Nat × Nat × Bool)} {rg : List Value} {c p : Int} {d : Bool} {xs : List Nat}
theorem TY.mods {S : Nat → Prop} (h : TY w v xs) (m : Mods S w w') (hS : ∀ b cs, w.heap[b]? = some (.cells cs 5 (0, 0)) → ¬ S b) : TY w' v xs := by
  obtain ⟨b, c, cs, h1, h2, h3⟩ := h
  exact ⟨b, c, cs, h1, (m.block b (Array.getElem?_eq_some_iff.1 h2).1 (hS b cs h2)).trans h2, h3⟩
theorem TX.ty (h : TX w v xs) (hl : xs.length ≤ maxLen) : TY w v xs := by
  obtain ⟨b, h1, h2⟩ := h
  refine ⟨b, xs.length, bcells xs, h1, h2, Nat.le_refl _, hl, fun i y hi => ?_⟩
  unfold bcells
  rw [List.getElem?_toArray, List.getElem?_map, hi]
  rfl
theorem XS.mods {S : Nat → Prop} (m : Mods S w w') (hS : ∀ b cs, w.heap[b]? = some (.cells cs 5 (0, 0)) → ¬ S b) : ∀ {L : List (Nat × Nat × Bool)} {vs : List Value}, XS w L vs → XS w' L vs
  | [], _, h => h
  | (s, y, b) :: r, _, h => by
    obtain ⟨v, vs', e, h1, h2, h3, h4⟩ := h
    exact ⟨v, vs', e, h1.mods m hS, h2, h3, XS.mods m hS h4⟩
theorem XS_at : ∀ {L : List (Nat × Nat × Bool)} {vs : List Value}, XS w L vs → ∀ {i s y : Nat} {b : Bool}, L[i]? = some (s, y, b) → ∃ v, vs[i * 3]? = some (.int .u32 s) ∧ vs[i * 3 + 1]? = some v ∧ vs[i * 3 + 2]? = some (.bool b) ∧ TY w v (tx y) ∧ s < 65536 ∧ y < 256
  | [], _, _, i, s, y, b, h => by simp at h
  | (a, z, e) :: r, vs, hw, i, s, y, b, h => by
    obtain ⟨v, vs', rfl, h1, h2, h3, h4⟩ := hw
    cases i with
    | zero =>
      simp at h
      obtain ⟨rfl, rfl, rfl⟩ := h
      exact ⟨v, rfl, rfl, rfl, h1, h2, h3⟩
    | succ i =>
      obtain ⟨u, k1, k2, k3, k4⟩ := XS_at h4 (i := i) (by simpa using h)
      refine ⟨u, ?_, ?_, ?_, k4⟩
      · rw [show (i + 1) * 3 = i * 3 + 3 by omega]; exact k1
      · rw [show (i + 1) * 3 + 1 = i * 3 + 1 + 3 by omega]; exact k2
      · rw [show (i + 1) * 3 + 2 = i * 3 + 2 + 3 by omega]; exact k3
theorem XD.lt (h : XD w q N lv L rb rg c p d) : q < w.heap.size := (Array.getElem?_eq_some_iff.1 h.row).1
theorem XD.c0 (h : XD w q N lv L rb rg c p d) : w.cell? ⟨q, 0, none⟩ = some (.int .i64 N) := by rw [cell_of_row _ _ _ _ _ _ h.row]; rfl
theorem XD.c1 (h : XD w q N lv L rb rg c p d) : w.cell? ⟨q, 1, none⟩ = some lv := by rw [cell_of_row _ _ _ _ _ _ h.row]; rfl
theorem XD.c2 (h : XD w q N lv L rb rg c p d) : w.cell? ⟨q, 2, none⟩ = some (.slice (some ⟨rb, 0, none⟩) 64 64) := by rw [cell_of_row _ _ _ _ _ _ h.row]; rfl
theorem XD.c3 (h : XD w q N lv L rb rg c p d) : w.cell? ⟨q, 3, none⟩ = some (.int .i64 c) := by rw [cell_of_row _ _ _ _ _ _ h.row]; rfl
theorem XD.c4 (h : XD w q N lv L rb rg c p d) : w.cell? ⟨q, 4, none⟩ = some (.int .i64 p) := by rw [cell_of_row _ _ _ _ _ _ h.row]; rfl
theorem XD.c5 (h : XD w q N lv L rb rg c p d) : w.cell? ⟨q, 5, none⟩ = some (.bool d) := by rw [cell_of_row _ _ _ _ _ _ h.row]; rfl
theorem XD.fz (h : XD w q N lv L rb rg c p d) (i : Nat) : w.frozen? ⟨q, i, none⟩ = false := by simp [World.frozen?, h.row]
theorem XD.form (h : XD w q N lv L rb rg c p d) : ∃ x k, lv = .slice x L.length k ∧ L.length ≤ k ∧ k ≤ maxLen := by obtain ⟨vs, h1, _⟩ := h.lst; exact h1.form
/-- A write in memory. -/
theorem XD.at {x : Option Addr} {k : Nat} (h : XD w q N (.slice x L.length k) L rb rg c p d) {i s y : Nat} {b : Bool} (hi : L[i]? = some (s, y, b)) :
    ∃ g o v, x = some ⟨g, o, none⟩ ∧ w.cell? ⟨g, o + i * 3, none⟩ = some (.int .u32 s) ∧ w.cell? ⟨g, o + i * 3 + 1, none⟩ = some v ∧ w.cell? ⟨g, o + i * 3 + 2, none⟩ = some (.bool b) ∧ w.frozen? ⟨g, o + i * 3 + 2, none⟩ = false ∧ TY w v (tx y) ∧ s < 65536 ∧ y < 256 := by
  obtain ⟨vs, hr, hx⟩ := h.lst
  obtain ⟨v, k1, k2, k3, k4, k5, k6⟩ := XS_at hx hi
  obtain ⟨g, o, rfl, c1, _⟩ := hr.cell k1
  obtain ⟨g', o', e, c2, _⟩ := hr.cell k2
  injection e with e; injection e with e1 e2 _; subst e1 e2
  obtain ⟨g', o', e, c3, f3⟩ := hr.cell k3
  injection e with e; injection e with e1 e2 _; subst e1 e2
  exact ⟨g, o, v, rfl, c1, by rw [Nat.add_assoc]; exact c2, by rw [Nat.add_assoc]; exact c3, by rw [Nat.add_assoc]; exact f3, k4, k5, k6⟩
/-- What the document's disk does not share. -/
theorem XD.mods {S : Nat → Prop} (h : XD w q N lv L rb rg c p d) (m : Mods S w w') (h1 : ¬ S q) (h2 : ∀ k, lv.ownBlock = some k → ¬ S k) (h3 : ∀ b cs, w.heap[b]? = some (.cells cs 5 (0, 0)) → ¬ S b) (h4 : ∀ b cs, w.heap[b]? = some (.cells cs 44 (0, 0)) → ¬ S b) : XD w' q N lv L rb rg c p d := by
  obtain ⟨vs, hr, hx⟩ := h.lst
  obtain ⟨t, ht, ht2⟩ := h.reg
  refine ⟨h.n1, h.n2, (m.block q h.lt h1).trans h.row, ⟨vs, hr.mods m h2, hx.mods m h3⟩, ⟨t, (m.block rb (Array.getElem?_eq_some_iff.1 ht).1 ?_).trans ht, ht2⟩, h.len⟩
  rcases ht2 with rfl | rfl
  · exact h3 _ _ ht
  · exact h4 _ _ ht
theorem XD.below (h : XD w q N lv L rb rg c p d) (b : Below w.heap.size w w') : XD w' q N lv L rb rg c p d := h.mods (S := fun _ => False) (Mods.of_below b) id (fun _ _ => id) (fun _ _ _ => id) (fun _ _ _ => id)
theorem XD.heap (h : XD w q N lv L rb rg c p d) (e : w'.heap = w.heap) : XD w' q N lv L rb rg c p d := by
  obtain ⟨vs, hr, hx⟩ := h.lst
  have hm : Mods (fun _ => False) { w' with os := w.os, tape := w.tape, output := w.output, drawn := w.drawn } { w' with os := w.os, tape := w.tape, output := w.output, drawn := w.drawn } := Mods.refl _ _
  have hx2 : ∀ {L : List (Nat × Nat × Bool)} {vs : List Value}, XS w L vs → XS w' L vs := by
    intro L
    induction L with
    | nil => exact fun h => h
    | cons a r ih =>
      obtain ⟨s, y, b⟩ := a
      intro vs h
      obtain ⟨v, vs', e2, ⟨b1, c1, cs, k1, k2, k3⟩, h2, h3, h4⟩ := h
      exact ⟨v, vs', e2, ⟨b1, c1, cs, k1, by rw [e]; exact k2, k3⟩, h2, h3, ih h4⟩
  refine ⟨h.n1, h.n2, by rw [e]; exact h.row, ⟨vs, ⟨hr.1, hr.2.1, ?_⟩, hx2 hx⟩, by rw [e]; exact h.reg, h.len⟩
  rcases hr.2.2 with h1 | ⟨b, o, cap, cs, k1, k2, k3⟩
  · exact .inl h1
  · exact .inr ⟨b, o, cap, cs, k1, by rw [e]; exact k2, k3⟩
/-- Blocks of the disk's own are none of the document's. -/
theorem XD.dt {g sb hb : Nat} {wv : Value} {su : Nat → Option Nat} {ws : List (Nat × Nat)} {rg' : List Value} {c' p' : Int} {d' : Bool} {K : Nat} (h : XD w q N lv L rb rg c p d) (k : DK w g N sb hb wv su ws rg' c' p' d' K) (m : Mods (Dt g sb hb wv) w w') : XD w' q N lv L rb rg c p d := by
  obtain ⟨vs, hr, hx⟩ := h.lst
  refine h.mods m (k.off ⟨_, _, _, h.row, by decide, by decide, .inl (by decide)⟩) (fun j hj => ?_) k.kinds.1 (fun b cs hb2 => k.off ⟨_, _, _, hb2, by decide, by decide, .inl (by decide)⟩)
  rcases hr.2.2 with ⟨rfl, _⟩ | ⟨b, o, cap, cs, rfl, k2, _⟩
  · simp [Value.ownBlock] at hj
  · simp [Value.ownBlock] at hj
    subst hj
    exact k.off ⟨_, _, _, k2, by decide, by decide, .inl (by decide)⟩
/-- Blocks of the document's disk are none of the disk's own. -/
theorem XD.off (h : XD w q N lv L rb rg c p d) : ∀ b, Xt q lv b → Off w b := by
  obtain ⟨vs, hr, hx⟩ := h.lst
  intro b hb
  rcases hb with rfl | hb
  · exact ⟨_, _, _, h.row, by decide, by decide, .inl (by decide)⟩
  · rcases hr.2.2 with ⟨rfl, _⟩ | ⟨b', o, cap, cs, rfl, k2, _⟩
    · simp [Value.ownBlock] at hb
    · simp [Value.ownBlock] at hb
      subst hb
      exact ⟨_, _, _, k2, by decide, by decide, .inl (by decide)⟩
/-- The document's disk's own cells are turned. -/
theorem XD.reset (h : XD w q N lv L rb rg c p d) {c' p' : Int} {d' : Bool} (hrow : w'.heap[q]? = some (.cells #[.int .i64 N, lv, .slice (some ⟨rb, 0, none⟩) 64 64, .int .i64 c', .int .i64 p', .bool d'] 40 (0, 0))) (m : Mods (fun k => k = q) w w') : XD w' q N lv L rb rg c' p' d' := by
  obtain ⟨vs, hr, hx⟩ := h.lst
  obtain ⟨t, ht, ht2⟩ := h.reg
  have ho : ∀ b cs t, w.heap[b]? = some (.cells cs t (0, 0)) → t ≠ 40 → b ≠ q := fun b cs t hb ht e => by
    rw [e, h.row] at hb; injection hb with hb; injection hb with _ e2 _; exact ht e2.symm
  refine ⟨h.n1, h.n2, hrow, ⟨vs, hr.mods m (fun k hk => ?_), hx.mods m (fun b cs hb => ho b cs 5 hb (by decide))⟩, ⟨t, (m.block rb (Array.getElem?_eq_some_iff.1 ht).1 (ho rb _ t ht (by rcases ht2 with rfl | rfl <;> decide))).trans ht, ht2⟩, h.len⟩
  rcases hr.2.2 with ⟨rfl, _⟩ | ⟨b', o, cap, cs, rfl, k2, _⟩
  · simp [Value.ownBlock] at hk
  · simp [Value.ownBlock] at hk
    subst hk
    exact ho _ _ 92 k2 (by decide)
end
theorem heap_set {w : World} {g t : Nat} {cs : Array Value} (h : w.heap[g]? = some (.cells cs t (0, 0))) (k : Nat) (v : Value) :
    (w.setCell ⟨g, k, none⟩ v).heap[g]? = some (.cells (cs.setIfInBounds k v) t (0, 0)) := heap_setCell_same _ _ _ _ _ _ h
/-- The register of noughts. -/
def zr : List Value := List.replicate 64 (.int .u8 0)
def XNewP (w : World) (N : Nat) (e : Ending) (w' : World) : Prop :=
  ∃ q rb, e = .returned (.tuple #[.pointer (some ⟨q, 0, none⟩), .int .i64 0]) ∧ XD w' q N (.slice none 0 0) [] rb zr 0 (-1) false ∧ w.heap.size ≤ q ∧ Below w.heap.size w w'
theorem newX_rows (w : World) (N : Nat) (h1 : 1 ≤ N) (h2 : N ≤ 65536) :
    XNewP w N (.returned (.tuple #[.pointer (some ⟨w.heap.size + 1, 0, none⟩), .int .i64 0])) ((w.alloc (.cells (bcells (List.replicate 64 0)) 5)).alloc (.cells #[.int .i64 N, .slice none 0 0, .slice (some ⟨w.heap.size, 0, none⟩) 64 64, .int .i64 0, .int .i64 (-1), .bool false] 40)) := by
  have e := heap_alloc_new (w.alloc (.cells (bcells (List.replicate 64 0)) 5)) (.cells #[.int .i64 N, .slice none 0 0, .slice (some ⟨w.heap.size, 0, none⟩) 64 64, .int .i64 0, .int .i64 (-1), .bool false] 40)
  have e2 := heap_alloc_new w (.cells (bcells (List.replicate 64 0)) 5)
  have hs : (w.alloc (.cells (bcells (List.replicate 64 0)) 5)).heap.size = w.heap.size + 1 := by simp
  rw [hs] at e
  refine ⟨w.heap.size + 1, w.heap.size, rfl, ⟨h1, h2, e, ⟨[], Rw.nil _ _ _, rfl⟩, ⟨5, ?_, .inl rfl⟩, rfl⟩, by omega, ((Below.refl _ _).alloc (Nat.le_refl _) _).alloc (by simp) _⟩
  rw [(Mods.alloc (S := fun _ => False) (w.alloc (.cells (bcells (List.replicate 64 0)) 5)) _).block w.heap.size (by simp) id]
  exact e2
set_option maxRecDepth 100000 in
theorem newX (N : Nat) (h1 : 1 ≤ N) (h2 : N ≤ 65536) (w : World) : Calls Try.prog 14 #[.int .i64 N] w (XNewP w N) := by
  have HF := Lib.hid (newX_rows w N h1 h2)
  have MK : ∀ w : World, (Instr.makeSlice 32 (.int .i64 64) (.int .i64 64)).run Try.prog w = .ok (.slice (some ⟨w.heap.size, 0, none⟩) 64 64) (w.alloc (.cells (bcells (List.replicate 64 0)) 5)) := fun w => make32 w 64 (by omega)
  have e1 : ¬ (N : Int) < 1 := by omega
  have e2 : ¬ (65536 : Int) < N := by omega
  clear h1 h2
  go_enter Try.func14, Try.ntmps14
  go_wp2_with fail
  go_ret2
  exact HF.out
theorem newX_no (n : Int) (h : n < 1 ∨ 65536 < n) (w : World) : Calls Try.prog 14 #[.int .i64 n] w fun e w' => e = .returned (.tuple #[.pointer none, .int .i64 1]) ∧ w = w' := by
  by_cases h1 : n < 1
  · clear h
    go_enter Try.func14, Try.ntmps14
    go_wp2_with fail
    go_ret2
    exact ⟨rfl, rfl⟩
  · have h2 : 65536 < n := by omega
    clear h
    go_enter Try.func14, Try.ntmps14
    go_wp2_with fail
    go_ret2
    exact ⟨rfl, rfl⟩
section
variable {w w' : World} {q N rb : Nat} {lv v : Value} {L : List (Nat × Nat × Bool)} {rg : List Value} {c p : Int} {d : Bool}
theorem thereX (h : XD w q N lv L rb rg c p d) (x : Nat) (hx : x < 4294967296) : Calls Try.prog 59 #[.pointer (some ⟨q, 0, none⟩), .int .u32 x] w fun e w' => e = .returned (.bool (decide (x < N))) ∧ w = w' := by
  have c0 := h.c0
  have n2 := h.n2
  have u1 : IntKind.u64.wrap (x : Int) = x := by simp [IntKind.wrap, IntKind.bits, IntKind.signed]; omega
  have u2 : IntKind.u64.wrap (N : Int) = N := by simp [IntKind.wrap, IntKind.bits, IntKind.signed]; omega
  clear h
  go_enter Try.func59, Try.ntmps59
  go_wp2_with fail
  go_ret
  exact ⟨rfl, rfl⟩
/-- What a call that changes makes of the document's disk. -/
def XCh (w : World) (q N : Nat) (lv : Value) (L : List (Nat × Nat × Bool)) (rb : Nat) (rg : List Value) (c p : Int) (d : Bool) (r : Value) (e : Ending) (w' : World) : Prop := e = .returned r ∧ XD w' q N lv L rb rg c p d ∧ Mods (fun k => k = q) w w'
theorem changeX_no (h : XD w q N lv L rb rg c p d) (hd : d = true ∨ p = 0) : Calls Try.prog 74 #[.pointer (some ⟨q, 0, none⟩)] w (XCh w q N lv L rb rg c p true (.int .i64 30)) := by
  have c4 := h.c4
  have c5 := h.c5
  have f5 := h.fz 5
  have HR : Hid (XD (w.setCell ⟨q, 5, none⟩ (.bool true)) q N lv L rb rg c p true ∧ Mods (fun k => k = q) w (w.setCell ⟨q, 5, none⟩ (.bool true))) := by
    have hm : Mods (fun k => k = q) w (w.setCell ⟨q, 5, none⟩ (.bool true)) := Mods.set _ _ _ rfl
    exact ⟨h.reset (heap_set h.row _ _) hm, hm⟩
  clear h
  cases d with
  | true =>
    go_enter Try.func74, Try.ntmps74
    go_wp2_with fail
    go_ret
    exact ⟨rfl, HR.out.1, HR.out.2⟩
  | false =>
    have hp : p = 0 := by simpa using hd
    subst hp
    go_enter Try.func74, Try.ntmps74
    go_wp2_with fail
    go_ret
    exact ⟨rfl, HR.out.1, HR.out.2⟩
theorem changeX_ok (h : XD w q N lv L rb rg c p false) (hc : 0 ≤ c) (hc2 : c ≤ 1000000) (hp : p = -1 ∨ 1 ≤ p) (hp2 : p ≤ 9223372036854775807) : Calls Try.prog 74 #[.pointer (some ⟨q, 0, none⟩)] w (XCh w q N lv L rb rg (c + 1) (pl p) false (.int .i64 0)) := by
  have c3 := h.c3
  have c4 := h.c4
  have c5 := h.c5
  have f3 := h.fz 3
  have f4 := h.fz 4
  by_cases h1 : p = -1
  · subst h1
    have HR : Hid (XD (w.setCell ⟨q, 3, none⟩ (.int .i64 (c + 1))) q N lv L rb rg (c + 1) (-1) false ∧ Mods (fun k => k = q) w (w.setCell ⟨q, 3, none⟩ (.int .i64 (c + 1)))) := by
      have hm : Mods (fun k => k = q) w (w.setCell ⟨q, 3, none⟩ (.int .i64 (c + 1))) := Mods.set _ _ _ rfl
      exact ⟨h.reset (heap_set h.row _ _) hm, hm⟩
    clear h
    go_enter Try.func74, Try.ntmps74
    go_wp2_with fail
    go_ret
    exact ⟨rfl, HR.out.1, HR.out.2⟩
  · have hp1 : 1 ≤ p := by omega
    have e : pl p = p - 1 := by unfold pl; rw [if_neg h1]
    rw [e]
    have HR : Hid (XD ((w.setCell ⟨q, 4, none⟩ (.int .i64 (p - 1))).setCell ⟨q, 3, none⟩ (.int .i64 (c + 1))) q N lv L rb rg (c + 1) (p - 1) false ∧ Mods (fun k => k = q) w ((w.setCell ⟨q, 4, none⟩ (.int .i64 (p - 1))).setCell ⟨q, 3, none⟩ (.int .i64 (c + 1)))) := by
      have hm : Mods (fun k => k = q) w ((w.setCell ⟨q, 4, none⟩ (.int .i64 (p - 1))).setCell ⟨q, 3, none⟩ (.int .i64 (c + 1))) := (Mods.set (S := fun k => k = q) _ _ _ rfl).trans (Mods.set (S := fun k => k = q) _ _ _ rfl) (fun _ h => .inl h)
      exact ⟨h.reset (heap_set (heap_set h.row _ _) _ _) hm, hm⟩
    have hpz : (p == 0) = false := by simp; omega
    clear h h1 e hp
    go_enter Try.func74, Try.ntmps74
    go_wp2_with fail
    go_ret
    exact ⟨rfl, HR.out.1, HR.out.2⟩
end
end Go.Proofs.Ytklhnibmpdaioaa
