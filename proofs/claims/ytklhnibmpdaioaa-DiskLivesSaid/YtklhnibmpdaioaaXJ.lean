/-
  The disk and the document's disk, side by side: what each pair of calls makes of both. Condition: both lie in memory and are equal.
-/
import Derived.Test.YtklhnibmpdaioaaXI
import Derived.Test.YtklhnibmpdaioaaDDn
namespace Go.Proofs.Ytklhnibmpdaioaa
open Go.RowKit
/-- The error of a tampering. -/
def tE (s N n : Nat) : Int := orE [if s < N then 0 else 31, if n = 512 then 0 else 3]
theorem wE_cases (d : Bool) (s N n : Nat) : (wE d s N n = 0 ∧ d = false ∧ s < N ∧ n = 512) ∨ (wE d s N n ≠ 0 ∧ (d = true ∨ ¬ s < N ∨ n ≠ 512) ∧ wE d s N n = if d = true then 30 else if s < N then 3 else 31) := by
  unfold wE
  cases d <;> by_cases h1 : s < N <;> by_cases h2 : n = 512 <;> simp only [h1, h2, if_true, if_false, true_and, and_true, false_and, not_true, not_false_iff, ne_eq, Bool.false_eq_true, or_true, or_false, reduceCtorEq] <;> decide
theorem tE_cases (s N n : Nat) : (tE s N n = 0 ∧ s < N ∧ n = 512) ∨ (tE s N n ≠ 0 ∧ (¬ s < N ∨ n ≠ 512) ∧ tE s N n = if s < N then 3 else 31) := by
  unfold tE
  by_cases h1 : s < N <;> by_cases h2 : n = 512 <;> simp only [h1, h2, if_true, if_false, true_and, and_true, false_and, not_true, not_false_iff, ne_eq, or_true, or_false] <;> decide
theorem rE_cases (d : Bool) (s N : Nat) : (rE d s N = 0 ∧ d = false ∧ s < N) ∨ (rE d s N ≠ 0 ∧ (d = true ∨ ¬ s < N) ∧ rE d s N = if d = true then 30 else 31) := by
  unfold rE
  cases d <;> by_cases h1 : s < N <;> simp only [h1, if_true, if_false, true_and, and_true, false_and, not_true, not_false_iff, ne_eq, Bool.false_eq_true, or_true, or_false, reduceCtorEq] <;> decide
section
variable {w w' : World} {g N sb hb : Nat} {wv : Value} {su : Nat → Option Nat} {ws : List (Nat × Nat)} {rg : List Value} {c p : Int} {d : Bool} {K : Nat}
set_option maxRecDepth 100000 in
set_option maxHeartbeats 1000000 in
theorem tamperD_err (h : DK w g N sb hb wv su ws rg c p d K) (s : Nat) (x : Option Addr) (n k : Nat) (hn : n ≤ 9223372036854775807) (he : tE s N n ≠ 0) :
    Calls Try.prog 32 #[.pointer (some ⟨g, 0, none⟩), .int .u32 s, .slice x n k] w fun e w' => e = .returned (.int .i64 (tE s N n)) ∧ Below w.heap.size w w' := by
  have Hs := Lib.hid (hasD h s)
  have F := Lib.hid (fitsD x n k hn w)
  clear h
  unfold tE at he ⊢
  generalize (if s < N then (0 : Int) else 31) = e2 at *
  generalize (if n = 512 then (0 : Int) else 3) = e3 at *
  have O := Lib.hid (or2 e2 e3 w)
  generalize orE [e2, e3] = E at *
  have hne : (E == 0) = false := by simp [he]
  have hne2 : (E != 0) = true := by simp [he]
  go_enter Try.func32, Try.ntmps32
  go_wp2_with fail
  refine Hs.out.mono ?_
  rintro e w' ⟨rfl, rfl⟩
  go_wp2_with fail
  refine F.out.mono ?_
  rintro e w' ⟨rfl, rfl⟩
  go_wp2_with fail
  refine O.out.mono ?_
  rintro e w' ⟨rfl, rfl⟩
  go_wp2_with fail
  go_ret
  exact ⟨rfl, (Below.refl _ _).alloc (Nat.le_refl _) _⟩
end
/-- A register of numbers. -/
def Rg (rg : List Value) : Prop := ∃ zs : List Nat, rg = zs.map (fun z : Nat => Value.int .u8 (z : Int)) ∧ zs.length = 64
theorem Rg.len {rg : List Value} (h : Rg rg) : rg.length = 64 := by obtain ⟨zs, rfl, h⟩ := h; simpa using h
theorem Rg.one {rg : List Value} (h : Rg rg) : ∀ v ∈ rg, v.oneCell' = true := by
  obtain ⟨zs, rfl, _⟩ := h
  intro v hv
  obtain ⟨z, _, rfl⟩ := List.mem_map.1 hv
  rfl
/-- Both disks. -/
structure ST (w0 w : World) (g N sb hb : Nat) (wv : Value) (su : Nat → Option Nat) (ws : List (Nat × Nat)) (rg : List Value) (c p : Int) (d : Bool) (K : Nat) (q : Nat) (lv : Value) (L : List (Nat × Nat × Bool)) (rb : Nat) : Prop where
  lk : LK w0 w g N sb hb wv su ws rg c p d K
  xd : XD w q N lv L rb rg c p d
  rl : RL su ws L
  oq : w0.heap.size ≤ q
  ol : ∀ j, lv.ownBlock = some j → w0.heap.size ≤ j
section
variable {w0 w w2 w3 w4 : World} {g N sb hb : Nat} {wv wv' : Value} {su su' : Nat → Option Nat} {ws ws' : List (Nat × Nat)} {rg rg' : List Value} {c p c' p' : Int} {d d' : Bool} {K K' q : Nat} {lv lv' : Value} {L L' : List (Nat × Nat × Bool)} {rb rb' j : Nat}
theorem ST.below (h : ST w0 w g N sb hb wv su ws rg c p d K q lv L rb) (b : Below w.heap.size w w2) : ST w0 w2 g N sb hb wv su ws rg c p d K q lv L rb := ⟨h.lk.below b, h.xd.below b, h.rl, h.oq, h.ol⟩
theorem ST.doc (l : LK w0 w3 g N sb hb wv' su' ws' rg' c' p' d' K') (x : XD w3 q N lv L rb rg c p d) (oq : w0.heap.size ≤ q) (ol : ∀ j, lv.ownBlock = some j → w0.heap.size ≤ j) (m : Mods (Xt q lv) w3 w4) (x' : XD w4 q N lv' L' rb' rg' c' p' d') (an : ∀ j, lv'.ownBlock = some j → lv.ownBlock = some j ∨ w3.heap.size ≤ j) (rl : RL su' ws' L') :
    ST w0 w4 g N sb hb wv' su' ws' rg' c' p' d' K' q lv' L' rb' := by
  refine ⟨l.apart m (fun b hb => ⟨x.off b hb, ?_⟩), x', rl, oq, fun j hj => (an j hj).elim (ol j) (fun h => Nat.le_trans l.b.size h)⟩
  rcases hb with rfl | hb
  · exact oq
  · exact ol b hb
/-- Both, whatever their state, after so many calls. -/
def OneS (w0 : World) (g N sb hb q j : Nat) (w : World) : Prop := ∃ wv su ws rg c p d K lv L rb, ST w0 w g N sb hb wv su ws rg c p d K q lv L rb ∧ 0 ≤ c ∧ c ≤ j ∧ K ≤ j ∧ L.length ≤ j ∧ (p = -1 ∨ 0 ≤ p ∧ p ≤ 9223372036854775807) ∧ Rg rg
theorem OneS.below (h : OneS w0 g N sb hb q j w) (b : Below w.heap.size w w2) : OneS w0 g N sb hb q j w2 := by
  obtain ⟨wv, su, ws, rg, c, p, d, K, lv, L, rb, h1, h2⟩ := h
  exact ⟨wv, su, ws, rg, c, p, d, K, lv, L, rb, h1.below b, h2⟩
theorem OneS.le (h : OneS w0 g N sb hb q j w) : OneS w0 g N sb hb q (j + 1) w := by
  obtain ⟨wv, su, ws, rg, c, p, d, K, lv, L, rb, h1, h2, h3, h4, h5, h6⟩ := h
  exact ⟨wv, su, ws, rg, c, p, d, K, lv, L, rb, h1, h2, by omega, by omega, by omega, h6⟩
theorem OneS.b (h : OneS w0 g N sb hb q j w) : Below w0.heap.size w0 w := by
  obtain ⟨wv, su, ws, rg, c, p, d, K, lv, L, rb, h1, h2⟩ := h
  exact h1.lk.b
theorem pl_ok (hp : p = -1 ∨ 1 ≤ p) (hp2 : p ≤ 9223372036854775807) : pl p = -1 ∨ 0 ≤ pl p ∧ pl p ≤ 9223372036854775807 := by
  unfold pl
  split <;> omega
/-- An op's box is as it was. -/
def KP (w w2 : World) : Prop := ∀ (b : Nat) (cs : Array Value), w.heap[b]? = some (Obj.cells cs 34 (0, 0)) → w2.heap[b]? = some (Obj.cells cs 34 (0, 0))
theorem KP.of_below (b : Below w.heap.size w w2) : KP w w2 := fun k _ hk => (b.block k (Array.getElem?_eq_some_iff.1 hk).1).trans hk
theorem KP.rfl : KP w w := fun _ _ h => h
theorem DK.kp (h : DK w g N sb hb wv su ws rg c p d K) (k : DkW w w2 g N sb hb wv wv' su' ws' rg' c' p' d' K') : KP w w2 := fun _ _ hk => (k.keeps h ⟨_, _, _, hk, by decide, by decide, .inl (by decide)⟩).trans hk
theorem XD.kp (h : XD w q N lv L rb rg c p d) (m : Mods (Xt q lv) w w2) : KP w w2 := fun b cs hk => by
  refine (m.block b (Array.getElem?_eq_some_iff.1 hk).1 ?_).trans hk
  rintro (rfl | hb)
  · have := h.row
    rw [hk] at this
    injection this with this
    injection this with _ e2 _
    cases e2
  · obtain ⟨vs, hr, _⟩ := h.lst
    exact hr.ty hk (by decide) hb
/-- What a pair of calls that write gives. -/
def PairW (w0 : World) (g N sb hb q j : Nat) (fa fb s y kk : Nat) (b : Nat) (w : World) : Prop := ∃ r : Int, Calls Try.prog fa #[.pointer (some ⟨g, 0, none⟩), .int .u32 s, .slice (some ⟨b, 0, none⟩) kk kk] w fun e w2 => e = .returned (.int .i64 r) ∧ Below w0.heap.size w0 w2 ∧ KP w w2 ∧
  ∀ w3 b3, Below w2.heap.size w2 w3 → w3.heap[b3]? = some (.cells (bcells (List.replicate kk y)) 5 (0, 0)) → Calls Try.prog fb #[.pointer (some ⟨q, 0, none⟩), .int .u32 s, .slice (some ⟨b3, 0, none⟩) kk kk] w3 fun e w4 => e = .returned (.int .i64 r) ∧ KP w3 w4 ∧ OneS w0 g N sb hb q (j + 1) w4
theorem writePair (h : OneS w0 g N sb hb q j w) (hj : j ≤ 1000) (s y kk : Nat) (hs : s < 4294967296) (hy : y < 256) (hkk : kk ≤ 600) (b : Nat) (hb1 : w.heap[b]? = some (.cells (bcells (List.replicate kk y)) 5 (0, 0))) : PairW w0 g N sb hb q j 27 51 s y kk b w := by
  have hO := h
  obtain ⟨wv, su, ws, rg, c, p, d, K, lv, L, rb, h1, h2, h3, h4, h5, h6, h7⟩ := h
  rcases wE_cases d s N kk with ⟨_, rfl, e2, rfl⟩ | ⟨e1, e2, e3⟩
  · have hX : TX w (.slice (some ⟨b, 0, none⟩) 512 512) (tx y) := ⟨b, by rw [tx_len], hb1⟩
    by_cases hp0 : p = 0
    · subst hp0
      refine ⟨30, (writeD_down h1.lk.dk s _ _ e2).mono ?_⟩
      rintro e w2 ⟨wv', rfl, k⟩
      refine ⟨rfl, (h1.lk.step k).b, h1.lk.dk.kp k, fun w3 b3 hbl hb3 => ?_⟩
      have l3 := (h1.lk.step k).below hbl
      have x3 := (h1.xd.dt h1.lk.dk k.m).below hbl
      refine (writeX_down x3 s e2 _ _).mono ?_
      rintro e w4 ⟨rfl, hx, hm⟩
      exact ⟨rfl, x3.kp (hm.mono (fun b hb => .inl (.inl hb))), _, _, _, _, _, _, _, _, _, _, _, ST.doc l3 x3 h1.oq h1.ol (hm.mono (fun b hb => .inl (.inl hb))) hx (fun _ h => .inl h) h1.rl, h2, by omega, by omega, by omega, h6, h7⟩
    · have hp : p = -1 ∨ 1 ≤ p := by omega
      have hp2 : p ≤ 9223372036854775807 := by omega
      refine ⟨0, (writeD_ok h1.lk.dk s y _ e2 hX hy h2 (by omega) hp hp2 (by omega)).mono ?_⟩
      rintro e w2 ⟨wv', rfl, k⟩
      refine ⟨rfl, (h1.lk.step k).b, h1.lk.dk.kp k, fun w3 b3 hbl hb3 => ?_⟩
      have l3 := (h1.lk.step k).below hbl
      have x3 := (h1.xd.dt h1.lk.dk k.m).below hbl
      have hX3 : TX w3 (.slice (some ⟨b3, 0, none⟩) 512 512) (tx y) := ⟨b3, by rw [tx_len], hb3⟩
      refine (writeX_ok x3 s y e2 hX3 hy (by omega) h2 (by omega) hp hp2).mono ?_
      rintro e w4 ⟨lv', rfl, hx, hm, an⟩
      exact ⟨rfl, x3.kp hm, _, _, _, _, _, _, _, _, _, _, _, ST.doc l3 x3 h1.oq h1.ol hm hx an (h1.rl.write s y), by omega, by omega, by omega, by simp; omega, pl_ok hp hp2, h7⟩
  · refine ⟨wE d s N kk, (writeD_err h1.lk.dk s _ _ _ (by omega) e1).mono ?_⟩
    rintro e w2 ⟨rfl, hbl2⟩
    have hO2 := hO.below hbl2
    refine ⟨rfl, hO2.b, .of_below hbl2, fun w3 b3 hbl hb3 => ?_⟩
    have x3 := (h1.xd.below hbl2).below hbl
    refine (writeX_err x3 s hs _ _ _ (by omega) e2).mono ?_
    rintro e w4 ⟨rfl, rfl⟩
    exact ⟨by rw [e3], .rfl, (hO2.below hbl).le⟩
theorem tamperPair (h : OneS w0 g N sb hb q j w) (hj : j ≤ 1000) (s y kk : Nat) (hs : s < 4294967296) (hy : y < 256) (hkk : kk ≤ 600) (b : Nat) (hb1 : w.heap[b]? = some (.cells (bcells (List.replicate kk y)) 5 (0, 0))) : PairW w0 g N sb hb q j 32 56 s y kk b w := by
  have hO := h
  obtain ⟨wv, su, ws, rg, c, p, d, K, lv, L, rb, h1, h2, h3, h4, h5, h6, h7⟩ := h
  rcases tE_cases s N kk with ⟨_, e2, rfl⟩ | ⟨e1, e2, e3⟩
  · have hX : TX w (.slice (some ⟨b, 0, none⟩) 512 512) (tx y) := ⟨b, by rw [tx_len], hb1⟩
    refine ⟨0, (tamperD h1.lk.dk s y _ e2 hX hy (by omega)).mono ?_⟩
    rintro e w2 ⟨wv', rfl, k⟩
    refine ⟨rfl, (h1.lk.step k).b, h1.lk.dk.kp k, fun w3 b3 hbl hb3 => ?_⟩
    have l3 := (h1.lk.step k).below hbl
    have x3 := (h1.xd.dt h1.lk.dk k.m).below hbl
    have hX3 : TX w3 (.slice (some ⟨b3, 0, none⟩) 512 512) (tx y) := ⟨b3, by rw [tx_len], hb3⟩
    refine (tamperX_ok x3 (by omega) s y e2 hX3 hy).mono ?_
    rintro e w4 ⟨lv', rfl, hx, hm, an⟩
    have hl := othL_len s L
    exact ⟨rfl, x3.kp hm, _, _, _, _, _, _, _, _, _, _, _, ST.doc l3 x3 h1.oq h1.ol hm hx an (h1.rl.tamper s y), by omega, by omega, by omega, by simp; omega, h6, h7⟩
  · refine ⟨tE s N kk, (tamperD_err h1.lk.dk s _ _ _ (by omega) e1).mono ?_⟩
    rintro e w2 ⟨rfl, hbl2⟩
    have hO2 := hO.below hbl2
    refine ⟨rfl, hO2.b, .of_below hbl2, fun w3 b3 hbl hb3 => ?_⟩
    have x3 := (h1.xd.below hbl2).below hbl
    refine (tamperX_err x3 s hs _ _ _ e2).mono ?_
    rintro e w4 ⟨rfl, rfl⟩
    exact ⟨by rw [e3], .rfl, (hO2.below hbl).le⟩
/-- What a pair of flushes gives. -/
theorem flushPair (h : OneS w0 g N sb hb q j w) (hj : j ≤ 1000) : ∃ r : Int, Calls Try.prog 28 #[.pointer (some ⟨g, 0, none⟩)] w fun e w2 => e = .returned (.int .i64 r) ∧
    Calls Try.prog 53 #[.pointer (some ⟨q, 0, none⟩)] w2 fun e w4 => e = .returned (.int .i64 r) ∧ OneS w0 g N sb hb q (j + 1) w4 := by
  have hO := h
  obtain ⟨wv, su, ws, rg, c, p, d, K, lv, L, rb, h1, h2, h3, h4, h5, h6, h7⟩ := h
  cases d with
  | true =>
    refine ⟨30, (flushD_isdown h1.lk.dk).mono ?_⟩
    rintro e w2 ⟨rfl, rfl⟩
    refine ⟨rfl, (flushX_no h1.xd (.inl rfl)).mono ?_⟩
    rintro e w4 ⟨rfl, hx, hm⟩
    exact ⟨rfl, _, _, _, _, _, _, _, _, _, _, _, ST.doc h1.lk h1.xd h1.oq h1.ol (hm.mono (fun b hb => .inl (.inl hb))) hx (fun _ h => .inl h) h1.rl, h2, by omega, by omega, by omega, h6, h7⟩
  | false =>
    by_cases hp0 : p = 0
    · subst hp0
      refine ⟨30, (flushD_down h1.lk.dk).mono ?_⟩
      rintro e w2 ⟨wv', rfl, k⟩
      have l3 := h1.lk.step k
      have x3 := h1.xd.dt h1.lk.dk k.m
      refine ⟨rfl, (flushX_no x3 (.inr rfl)).mono ?_⟩
      rintro e w4 ⟨rfl, hx, hm⟩
      exact ⟨rfl, _, _, _, _, _, _, _, _, _, _, _, ST.doc l3 x3 h1.oq h1.ol (hm.mono (fun b hb => .inl (.inl hb))) hx (fun _ h => .inl h) h1.rl, h2, by omega, by omega, by omega, h6, h7⟩
    · have hp : p = -1 ∨ 1 ≤ p := by omega
      have hp2 : p ≤ 9223372036854775807 := by omega
      refine ⟨0, (flushD_ok h1.lk.dk h2 (by omega) hp hp2).mono ?_⟩
      rintro e w2 ⟨wv', rfl, k⟩
      have l3 := h1.lk.step k
      have x3 := h1.xd.dt h1.lk.dk k.m
      refine ⟨rfl, (flushX_ok x3 (by omega) h2 (by omega) hp hp2).mono ?_⟩
      rintro e w4 ⟨rfl, hx, hm⟩
      have hl := crL_len (fun _ => true) 0 L
      exact ⟨rfl, _, _, _, _, _, _, _, _, _, _, _, ST.doc l3 x3 h1.oq h1.ol hm hx (fun _ h => .inl h) (h1.rl.crash (fun _ => true)), by omega, by omega, by omega, by omega, pl_ok hp hp2, h7⟩
/-- What a pair of settings of the register gives. -/
theorem setregPair (h : OneS w0 g N sb hb q j w) (hj : j ≤ 1000) (r9 : Nat) (rg' : List Value) (hr' : Rg rg') (hb9 : w.heap[r9]? = some (.cells rg'.toArray 44 (0, 0))) : ∃ r : Int, Calls Try.prog 29 #[.pointer (some ⟨g, 0, none⟩), .agg rg'.toArray] w fun e w2 => e = .returned (.int .i64 r) ∧ w2.heap[r9]? = some (.cells rg'.toArray 44 (0, 0)) ∧
    Calls Try.prog 54 #[.pointer (some ⟨q, 0, none⟩), .slice (some ⟨r9, 0, none⟩) 64 64] w2 fun e w4 => e = .returned (.int .i64 r) ∧ w4.heap[r9]? = some (.cells rg'.toArray 44 (0, 0)) ∧ OneS w0 g N sb hb q (j + 1) w4 := by
  have hO := h
  have kx : ∀ {w3 w4 : World} {N' rb'' : Nat} {lv'' : Value} {L'' : List (Nat × Nat × Bool)} {rg'' : List Value} {c'' p'' : Int} {d'' : Bool}, XD w3 q N' lv'' L'' rb'' rg'' c'' p'' d'' → Mods (fun k => k = q) w3 w4 → w3.heap[r9]? = some (.cells rg'.toArray 44 (0, 0)) → w4.heap[r9]? = some (.cells rg'.toArray 44 (0, 0)) := fun hx hm hb => by
    refine (hm.block r9 (Array.getElem?_eq_some_iff.1 hb).1 (fun e => ?_)).trans hb
    have := hx.row
    rw [← e, hb] at this
    injection this with this
    injection this with _ e2 _
    cases e2
  obtain ⟨wv, su, ws, rg, c, p, d, K, lv, L, rb, h1, h2, h3, h4, h5, h6, h7⟩ := h
  cases d with
  | true =>
    refine ⟨30, (setregD_isdown h1.lk.dk _).mono ?_⟩
    rintro e w2 ⟨rfl, hbl⟩
    have l3 := h1.lk.below hbl
    have x3 := h1.xd.below hbl
    have hb92 := (hbl.block r9 (Array.getElem?_eq_some_iff.1 hb9).1).trans hb9
    refine ⟨rfl, hb92, (setregX_no x3 (.inl rfl) _).mono ?_⟩
    rintro e w4 ⟨rfl, hx, hm⟩
    exact ⟨rfl, kx x3 hm hb92, _, _, _, _, _, _, _, _, _, _, _, ST.doc l3 x3 h1.oq h1.ol (hm.mono (fun b hb => .inl (.inl hb))) hx (fun _ h => .inl h) h1.rl, h2, by omega, by omega, by omega, h6, h7⟩
  | false =>
    by_cases hp0 : p = 0
    · subst hp0
      refine ⟨30, (setregD_down h1.lk.dk _).mono ?_⟩
      rintro e w2 ⟨wv', rfl, k⟩
      have l3 := h1.lk.step k
      have x3 := h1.xd.dt h1.lk.dk k.m
      have hb92 := (k.keeps h1.lk.dk ⟨_, _, _, hb9, by decide, by decide, .inl (by decide)⟩).trans hb9
      refine ⟨rfl, hb92, (setregX_no x3 (.inr rfl) _).mono ?_⟩
      rintro e w4 ⟨rfl, hx, hm⟩
      exact ⟨rfl, kx x3 hm hb92, _, _, _, _, _, _, _, _, _, _, _, ST.doc l3 x3 h1.oq h1.ol (hm.mono (fun b hb => .inl (.inl hb))) hx (fun _ h => .inl h) h1.rl, h2, by omega, by omega, by omega, h6, h7⟩
    · have hp : p = -1 ∨ 1 ≤ p := by omega
      have hp2 : p ≤ 9223372036854775807 := by omega
      refine ⟨0, (setregD_ok h1.lk.dk h2 (by omega) hp hp2 rg' hr'.len hr'.one).mono ?_⟩
      rintro e w2 ⟨rfl, hd, hm0⟩
      have k : DkW w w2 g N sb hb wv wv su ws rg' (c + 1) (pl p) false K := ⟨hd, hm0.mono (fun b hb => .inl (.inl hb)), anew_same _ _⟩
      have l3 := h1.lk.step k
      have x3 := h1.xd.dt h1.lk.dk k.m
      have hne : r9 ≠ g := fun e => by
        have := h1.lk.dk.row
        rw [← e, hb9] at this
        injection this with this
        injection this with _ e2 _
        cases e2
      have hb92 := (hm0.block r9 (Array.getElem?_eq_some_iff.1 hb9).1 hne).trans hb9
      refine ⟨rfl, hb92, (setregX_ok x3 h2 (by omega) hp hp2 hb92 (.inr rfl) hr'.len).mono ?_⟩
      rintro e w4 ⟨rfl, hx, hm⟩
      exact ⟨rfl, kx x3 hm hb92, _, _, _, _, _, _, _, _, _, _, _, ST.doc l3 x3 h1.oq h1.ol (hm.mono (fun b hb => .inl (.inl hb))) hx (fun _ h => .inl h) h1.rl, by omega, by omega, by omega, by omega, pl_ok hp hp2, hr'⟩
theorem str_ty {v : Value} {xs : List Nat} (h : TY w v xs) : (convert 32 9 v).run Try.prog w = .ok (.string (strOfNums (xs.map fun n : Nat => (n : Int)))) w := by
  obtain ⟨b, cc, cs, rfl, h2, h3, h4, h5⟩ := h
  exact run_convert_bytes_arg w 32 5 Try.underlying32 Try.underlying5 b 0 xs.length cc (xs.map fun n : Nat => (n : Int)) (by rw [List.length_map]) (fun i hi => by
    have hx : xs[i]? = some xs[i] := List.getElem?_eq_getElem hi
    rw [cell_of_row _ _ _ _ _ _ h2, Nat.zero_add, h5 i _ hx, List.getD_eq_getElem?_getD, List.getElem?_map, hx]
    rfl) 9 Try.underlying9
/-- What a pair of reads gives. -/
theorem readPair (h : OneS w0 g N sb hb q j w) (hj : j ≤ 1000) (s : Nat) (hs : s < 4294967296) : ∃ r : Int, Calls Try.prog 26 #[.pointer (some ⟨g, 0, none⟩), .int .u32 s] w fun e w2 => ∃ x n k, e = .returned (.tuple #[.slice x n k, .int .i64 r]) ∧ KP w w2 ∧
    Calls Try.prog 52 #[.pointer (some ⟨q, 0, none⟩), .int .u32 s] w2 fun e w4 => ∃ x' n' k' st, e = .returned (.tuple #[.slice x' n' k', .int .i64 r]) ∧ OneS w0 g N sb hb q j w4 ∧ (convert 32 9 (.slice x n k)).run Try.prog w4 = .ok (.string st) w4 ∧ (convert 32 9 (.slice x' n' k')).run Try.prog w4 = .ok (.string st) w4 := by
  have hO := h
  obtain ⟨wv, su, ws, rg, c, p, d, K, lv, L, rb, h1, h2, h3, h4, h5, h6, h7⟩ := h
  rcases rE_cases d s N with ⟨e1, rfl, e2⟩ | ⟨e1, e2, e3⟩
  · refine ⟨0, (readD_ok h1.lk.dk s e2).mono ?_⟩
    rintro e w2 ⟨b, rfl, m1, _, m3⟩
    have hO2 := hO.below m3
    refine ⟨_, _, _, rfl, .of_below m3, (readX (h1.xd.below m3) (by omega) s e2).mono ?_⟩
    rintro e w4 ⟨v', rfl, t4, b4⟩
    rw [h1.rl.shown s] at t4
    have t2 : TY w4 (.slice (some ⟨b, 0, none⟩) 512 512) (padT (shwn su ws s)) := by
      have hl : (padT (shwn su ws s)).length = 512 := by rw [padT_getD, tx_len]
      have hx : TX w2 (.slice (some ⟨b, 0, none⟩) 512 512) (padT (shwn su ws s)) := ⟨b, by rw [hl], m1⟩
      exact ((hx.ty (by rw [hl]; decide)).mods (Mods.of_below b4 (S := fun _ => False)) (fun _ _ _ => id))
    have s2 := str_ty t2
    have s4 := str_ty t4
    obtain ⟨_, _, _, rfl, _⟩ := t4
    exact ⟨_, _, _, _, rfl, hO2.below b4, s2, s4⟩
  · refine ⟨rE d s N, (readD_err h1.lk.dk s e1).mono ?_⟩
    rintro e w2 ⟨rfl, m3⟩
    have hO2 := hO.below m3
    refine ⟨_, _, _, rfl, .of_below m3, (readX_no (h1.xd.below m3) s hs e2).mono ?_⟩
    rintro e w4 ⟨rfl, rfl⟩
    obtain ⟨st, hst⟩ : ∃ st, (convert 32 9 (.slice none 0 0)).run Try.prog w2 = .ok (.string st) w2 := ⟨strOfNums [], by first | kernel_rfl | rfl | (simp [convert, go_sem]; done)⟩
    exact ⟨_, _, _, st, by rw [e3], hO2, hst, hst⟩
/-- The plan. -/
theorem planX (h : XD w q N lv L rb rg c p d) (n : Int) : XD (w.setCell ⟨q, 4, none⟩ (.int .i64 n)) q N lv L rb rg c n d ∧ Mods (fun k => k = q) w (w.setCell ⟨q, 4, none⟩ (.int .i64 n)) := by
  have hm : Mods (fun k => k = q) w (w.setCell ⟨q, 4, none⟩ (.int .i64 n)) := Mods.set _ _ _ rfl
  exact ⟨h.reset (heap_set h.row _ _) hm, hm⟩
theorem failPair (h : OneS w0 g N sb hb q j w) (n : Nat) (hn : n ≤ 9223372036854775807) : (∃ v, w.cell? ⟨q, 4, none⟩ = some v) ∧ w.frozen? ⟨q, 4, none⟩ = false ∧
    Calls Try.prog 30 #[.pointer (some ⟨g, 0, none⟩), .int .i64 n] (w.setCell ⟨q, 4, none⟩ (.int .i64 n)) fun e w2 => e = .returned (.int .i64 0) ∧ OneS w0 g N sb hb q j w2 := by
  obtain ⟨wv, su, ws, rg, c, p, d, K, lv, L, rb, h1, h2, h3, h4, h5, h6, h7⟩ := h
  refine ⟨⟨_, h1.xd.c4⟩, h1.xd.fz 4, ?_⟩
  obtain ⟨x1, m1⟩ := planX h1.xd n
  have l1 : LK w0 (w.setCell ⟨q, 4, none⟩ (.int .i64 n)) g N sb hb wv su ws rg c p d K := h1.lk.apart m1 (fun b hb => ⟨by rw [hb]; exact h1.xd.off q (.inl rfl), by rw [hb]; exact h1.oq⟩)
  refine (failD_ok l1.dk n).mono ?_
  rintro e w2 ⟨wv', rfl, k⟩
  exact ⟨rfl, _, _, _, _, _, _, _, _, _, _, _, ⟨l1.step k, x1.dt l1.dk k.m, h1.rl, h1.oq, h1.ol⟩, h2, by omega, by omega, by omega, .inr ⟨by omega, by omega⟩, h7⟩
theorem failPair_no (h : OneS w0 g N sb hb q j w) (n : Int) (hn : n < 0) : Calls Try.prog 30 #[.pointer (some ⟨g, 0, none⟩), .int .i64 n] w fun e w2 => e = .returned (.int .i64 1) ∧ OneS w0 g N sb hb q j w2 := by
  have hO := h
  obtain ⟨wv, su, ws, rg, c, p, d, K, lv, L, rb, h1, h2, h3, h4, h5, h6, h7⟩ := h
  refine (failD_neg h1.lk.dk n hn).mono ?_
  rintro e w2 ⟨rfl, rfl⟩
  exact ⟨rfl, hO⟩
/-- A crash. -/
theorem crashPair (h : OneS w0 g N sb hb q j w) (hj : j ≤ 1000) (x : Option Addr) (n k : Nat) (f : Nat → Int) (hn : n ≤ 9223372036854775807)
    (hx : ∀ j, j < n → 0 ≤ f j ∧ f j ≤ 255 ∧ ∃ b o, x = some ⟨b, o, none⟩ ∧ b < w0.heap.size ∧ w0.cell? ⟨b, o + j, none⟩ = some (.int .u8 (f j))) :
    Calls Try.prog 55 #[.pointer (some ⟨q, 0, none⟩), .slice x n k] w fun e w2 => e = .returned (.tuple #[]) ∧ Below w0.heap.size w0 w2 ∧ KP w w2 ∧
    Calls Try.prog 31 #[.pointer (some ⟨g, 0, none⟩), .slice x n k] w2 fun e w4 => e = .returned (.int .i64 0) ∧ OneS w0 g N sb hb q j w4 := by
  obtain ⟨wv, su, ws, rg, c, p, d, K, lv, L, rb, h1, h2, h3, h4, h5, h6, h7⟩ := h
  refine (crashX h1.xd (by omega) x n k f hn (fun i hi => by
    obtain ⟨p0, p1, b, o, e, hbl, hcell⟩ := hx i hi
    exact ⟨p0, p1, b, o, e, Nat.lt_of_lt_of_le hbl h1.lk.b.size, (h1.lk.b.cell (p := ⟨b, o + i, none⟩) hbl).trans hcell⟩)).mono ?_
  rintro e w2 ⟨lv', rfl, hx2, hm, an⟩
  have l2 : LK w0 w2 g N sb hb wv su ws rg c p d K := h1.lk.apart hm (fun b hb => ⟨h1.xd.off b hb, by
    rcases hb with rfl | hb
    · exact h1.oq
    · exact h1.ol b hb⟩)
  refine ⟨rfl, l2.b, h1.xd.kp hm, (crashD l2.dk x n k f hn (fun i hi => ?_)).mono ?_⟩
  · obtain ⟨p0, p1, b, o, e, hbl, hcell⟩ := hx i hi
    refine ⟨p0, p1, b, o, e, Nat.lt_of_lt_of_le hbl l2.b.size, fun e => ?_, (l2.b.cell (p := ⟨b, o + i, none⟩) hbl).trans hcell⟩
    rcases e with e | e | e | e
    · have := l2.og; omega
    · have := l2.os; omega
    · have := l2.oh; omega
    · have := l2.ov b e; omega
  · rintro e w4 ⟨wv', rfl, k⟩
    have hl := crL_len (kbit f n) 0 L
    exact ⟨rfl, _, _, _, _, _, _, _, _, _, _, _, ⟨l2.step k, hx2.dt l2.dk k.m, h1.rl.crash _, h1.oq, fun j hj => (an j hj).elim (h1.ol j) (fun h => Nat.le_trans h1.lk.b.size h)⟩, h2, by omega, by omega, by omega, .inl rfl, h7⟩
end
end Go.Proofs.Ytklhnibmpdaioaa
