/-
  Contracts of Write, Flush, SetReg in one statement each: they go through, or tell that the disk is down. Condition: the disk lies in memory as said.
-/
import Derived.Test.YtjdamlmoegippaaDoorDkPF
import Derived.Deep.MidRow
namespace Go.Proofs.YtjdamlmoegippaaDoor.dk.pv
open Go.RowKit
variable {P : Nat → Prop}
/-- A disk while its writes are gone through. -/
structure SK (P : Nat → Prop) (w w' : World) (g N sb hb : Nat) (wv : Value) (su sh : Nat → Option Nat) (n : Nat) (ws : List (Nat × Nat)) (rg : List Value) (c p : Int) (d : Bool) (K : Nat) : Prop where
  row : w'.heap[g]? = some (.cells (dcells N sb hb wv rg c p d) 94 (0, 0))
  sure : ∃ m f, MapV Tryd.prog 22 w' sb m f ∧ m + ws.length ≤ K + n ∧ SM P w' f su
  shown : ∃ m f, MapV Tryd.prog 22 w' hb m f ∧ m ≤ K ∧ SM P w' f sh
  m : Mods (fun k => k = sb ∨ k = hb) w w'
section
variable {w w' w'' : World} {g N sb hb : Nat} {wv : Value} {su su' sh sh' : Nat → Option Nat} {n : Nat} {ws : List (Nat × Nat)} {rg : List Value} {c p : Int} {d : Bool} {K : Nat}
theorem SK.below (h : SK P w w' g N sb hb wv su sh n ws rg c p d K) (b : Below w'.heap.size w' w'') : SK P w w'' g N sb hb wv su sh n ws rg c p d K := by
  have m : Mods (fun _ => False) w' w'' := Mods.of_below b
  obtain ⟨n1, f1, m1, b1, s1⟩ := h.sure
  obtain ⟨n2, f2, m2, b2, s2⟩ := h.shown
  exact ⟨(m.block g (Array.getElem?_eq_some_iff.1 h.row).1 id).trans h.row, ⟨n1, f1, m1.mods m id, b1, s1.mods m (fun _ _ _ => id)⟩, ⟨n2, f2, m2.mods m id, b2, s2.mods m (fun _ _ _ => id)⟩, h.m.trans m (fun _ hf => hf.elim)⟩
theorem SK.kinds (h : SK P w w' g N sb hb wv su sh n ws rg c p d K) : (∀ b cs, w'.heap[b]? = some (.cells cs 5 (0, 0)) → ¬ b = sb ∧ ¬ b = hb) ∧ g ≠ sb ∧ g ≠ hb := by
  obtain ⟨n1, f1, m1, b1, s1⟩ := h.sure
  obtain ⟨n2, f2, m2, b2, s2⟩ := h.shown
  obtain ⟨es1, k1, hm1⟩ := m1.isMap
  obtain ⟨es2, k2, hm2⟩ := m2.isMap
  refine ⟨fun b cs hb' => ⟨fun e => ?_, fun e => ?_⟩, fun e => ?_, fun e => ?_⟩
  · rw [e, hm1] at hb'; cases hb'
  · rw [e, hm2] at hb'; cases hb'
  · have := h.row; rw [e, hm1] at this; cases this
  · have := h.row; rw [e, hm2] at this; cases this
/-- One more is sure. -/
theorem SK.store (h : SK P w w' g N sb hb wv su sh n ws rg c p d K) (hne : sb ≠ hb) (hK : K + n < 2000000) {s y : Nat} {v : Value} (hs : s < 65536) (hv : TX P w' v (tx y)) (hy : YB y) (h1 : su' s = some y) (h2 : ∀ j, j ≠ s → su' j = su j) :
    ∃ w'', (Instr.mapUpdate 90 (.map (some sb)) (.int .u32 s) v).run Tryd.prog w' = .ok () w'' ∧ SK P w w'' g N sb hb wv su' sh (n + 1) ws rg c p d K ∧ Mods (fun k => k = sb) w' w'' := by
  obtain ⟨n1, f1, m1, b1, s1⟩ := h.sure
  obtain ⟨n2, f2, m2, b2, s2⟩ := h.shown
  obtain ⟨kb, kg1, kg2⟩ := h.kinds
  obtain ⟨w'', hst, m27, hm7, hz7⟩ := m1.store keyed23 Tryd.underlying90 (by unfold maxLen; omega) (v := v) (key23 s (by omega))
  have kA : ∀ b cs, w'.heap[b]? = some (.cells cs 5 (0, 0)) → ¬ b = sb := fun b cs hb' => (kb b cs hb').1
  refine ⟨w'', hst, ⟨(hm7.block g (Array.getElem?_eq_some_iff.1 h.row).1 kg1).trans h.row, ⟨_, _, m27, ?_, SM_upd (s1.mods hm7 kA) (hv.mods hm7 kA) hy h1 h2⟩, ⟨n2, f2, m2.mods hm7 hne.symm, b2, s2.mods hm7 kA⟩, h.m.trans hm7 (fun b hb => .inl (.inl hb))⟩, hm7⟩
  split <;> omega
/-- One sector shows what is sure. -/
theorem SK.drop (h : SK P w w' g N sb hb wv su sh n ws rg c p d K) (hne : sb ≠ hb) {s : Nat} (hs : s < 65536) (h1 : sh' s = none) (h2 : ∀ j, j ≠ s → sh' j = sh j) :
    ∃ w'', (∀ ty, (Builtin.delete_ #[90, 22] ty #[.map (some hb), .int .u32 s]).run Tryd.prog w' = .ok (.tuple #[]) w'') ∧ SK P w w'' g N sb hb wv su sh' n ws rg c p d K ∧ Mods (fun k => k = hb) w' w'' := by
  obtain ⟨n1, f1, m1, b1, s1⟩ := h.sure
  obtain ⟨n2, f2, m2, b2, s2⟩ := h.shown
  obtain ⟨kb, kg1, kg2⟩ := h.kinds
  obtain ⟨w'', hst, m27, hm7, hz7⟩ := m2.drop keyed23 Tryd.underlying90 (key23 s (by omega))
  have kA : ∀ b cs, w'.heap[b]? = some (.cells cs 5 (0, 0)) → ¬ b = hb := fun b cs hb' => (kb b cs hb').2
  refine ⟨w'', hst, ⟨(hm7.block g (Array.getElem?_eq_some_iff.1 h.row).1 kg2).trans h.row, ⟨n1, f1, m1.mods hm7 hne, b1, s1.mods hm7 kA⟩, ⟨_, _, m27, ?_, SM_del (s2.mods hm7 kA) h1 h2⟩, h.m.trans hm7 (fun b hb => .inl (.inr hb))⟩, hm7⟩
  split <;> omega
/-- The drawn number is of no matter. -/
theorem SK.drew (h : SK P w w' g N sb hb wv su sh n ws rg c p d K) : SK P w w'.drew g N sb hb wv su sh n ws rg c p d K :=
  h.below ⟨rfl, rfl, rfl, Nat.le_refl _, fun _ _ => rfl⟩
end
end Go.Proofs.YtjdamlmoegippaaDoor.dk.pv
namespace Go.Proofs.YtjdamlmoegippaaDoor.dk.pv
open Go.RowKit
variable {P : Nat → Prop}
section
variable {w w' : World} {g N sb hb : Nat} {wv : Value} {su : Nat → Option Nat} {ws : List (Nat × Nat)} {rg : List Value} {c p : Int} {d : Bool} {K : Nat}
theorem DK.looks (h : DK P w g N sb hb wv su ws rg c p d K) (s : Nat) (hs : s < 65536) :
    (∃ v, (Instr.lookup 90 (.map (some sb)) (.int .u32 s) false).run Tryd.prog w = .ok v w ∧ ((su s = none ∧ v = .slice none 0 0) ∨ ∃ y, su s = some y ∧ TX P w v (tx y))) ∧
    (∃ v, (Instr.lookup 90 (.map (some hb)) (.int .u32 s) true).run Tryd.prog w = .ok (.tuple #[v, .bool (lastW s ws).isSome]) w ∧ ((lastW s ws = none ∧ v = .slice none 0 0) ∨ ∃ y, lastW s ws = some y ∧ TX P w v (tx y))) := by
  obtain ⟨n1, f1, m1, _, s1⟩ := h.sure
  obtain ⟨n2, f2, m2, _, s2⟩ := h.shown
  have l1 := m1.look keyed23 Tryd.underlying90 (zero32 _) (key23 s (by omega))
  have l2 := m2.look_ok keyed23 Tryd.underlying90 (zero32 _) (key23 s (by omega))
  refine ⟨⟨_, l1, ?_⟩, ?_⟩
  · rcases s1 s with ⟨a, b⟩ | ⟨y, v, a, b, t, _⟩
    · exact .inl ⟨a, by rw [b]; rfl⟩
    · exact .inr ⟨y, a, by rw [b]; exact t⟩
  · rcases s2 s with ⟨a, b⟩ | ⟨y, v, a, b, t, _⟩
    · have a' : lastW s ws = none := a
      exact ⟨.slice none 0 0, by rw [l2, b, a']; rfl, .inl ⟨a', rfl⟩⟩
    · have a' : lastW s ws = some y := a
      exact ⟨v, by rw [l2, b, a']; rfl, .inr ⟨y, a', t⟩⟩
set_option maxRecDepth 100000 in
set_option maxHeartbeats 1000000 in
theorem readD_ok (h : DK P w g N sb hb wv su ws rg c p false K) (s : Nat) (hs : s < N) : Calls Tryd.prog 25 #[.pointer (some ⟨g, 0, none⟩), .int .u32 s] w (OutP w (shwn su ws s)) := by
  have n2 := h.n2
  have A := Lib.hid (awakeD h)
  have Hs := Lib.hid (hasD h s)
  rw [if_pos hs] at Hs
  have O := Lib.hid (orD w.heap.size [0, 0] (by simp) (w.alloc (.cells #[.int .i64 0, .int .i64 0] 34)) (fun j z hj => by
    rw [cell_of_row _ _ _ _ _ _ (heap_alloc_new w _)]; rcases j with _ | _ | j <;> simp at hj <;> subst hj <;> rfl))
  obtain ⟨w1, hw1⟩ : ∃ w1, w1 = w.alloc (.cells #[.int .i64 0, .int .i64 0] 34) := ⟨_, rfl⟩
  have hbw1 : Below w.heap.size w w1 := by rw [hw1]; exact (Below.refl _ _).alloc (Nat.le_refl _) _
  have h1 := h.below hbw1
  have HB1 := Lib.hid hbw1
  rw [← hw1] at O
  have HW1 := Lib.hid hw1
  have e1 := h1.c1
  have e2 := h1.c2
  obtain ⟨⟨va, la, ra⟩, ⟨vb, lb, rb⟩⟩ := h1.looks s (by omega)
  have F : ∀ (o : Option Nat) (v : Value), ((o = none ∧ v = .slice none 0 0) ∨ ∃ y, o = some y ∧ TX P w1 v (tx y)) → Calls Tryd.prog 50 #[v, .int .i64 512] w1 (OutP w o) := fun o v hv =>
    (padD (hv.imp id fun ⟨y, h1, h2⟩ => ⟨y, h1, h2.old⟩)).mono fun e w' ⟨a, b⟩ => ⟨_, a, by rw [b]; exact heap_alloc_new _ _, HB1.out.size, by rw [b]; exact HB1.out.alloc HB1.out.size _⟩
  have FF := Lib.hid F
  clear h h1 hw1 hbw1 F
  unfold shwn
  cases hl : lastW s ws with
  | none =>
    rw [hl] at lb
    have lb' : (Instr.lookup 90 (.map (some hb)) (.int .u32 s) true).run Tryd.prog w1 = .ok (.tuple #[vb, .bool false]) w1 := lb
    have FA := Lib.hid (FF.out (su s) va ra)
    clear lb hl ra rb
    go_enter Tryd.func25, Tryd.ntmps25
    go_wp2_with fail
    refine A.out.mono ?_
    rintro e w' ⟨rfl, rfl⟩
    go_wp2_with fail
    refine Hs.out.mono ?_
    rintro e w' ⟨rfl, rfl⟩
    go_wp2_with fail
    rw [← HW1.out]
    refine O.out.mono ?_
    rintro e w' ⟨rfl, rfl⟩
    go_wp2_with fail
    refine FA.out.mono ?_
    rintro e w2 ⟨b, rfl, k1, k2, k3⟩
    have R := Lib.hid (And.intro k1 (And.intro k2 k3))
    clear k1 k2 k3
    go_wp2_with fail
    go_ret2
    exact ⟨b, rfl, R.out⟩
  | some y =>
    rw [hl] at lb rb
    have lb' : (Instr.lookup 90 (.map (some hb)) (.int .u32 s) true).run Tryd.prog w1 = .ok (.tuple #[vb, .bool true]) w1 := lb
    have FA := Lib.hid (FF.out (some y) vb rb)
    clear lb hl ra rb
    go_enter Tryd.func25, Tryd.ntmps25
    go_wp2_with fail
    refine A.out.mono ?_
    rintro e w' ⟨rfl, rfl⟩
    go_wp2_with fail
    refine Hs.out.mono ?_
    rintro e w' ⟨rfl, rfl⟩
    go_wp2_with fail
    rw [← HW1.out]
    refine O.out.mono ?_
    rintro e w' ⟨rfl, rfl⟩
    go_wp2_with fail
    refine FA.out.mono ?_
    rintro e w2 ⟨b, rfl, k1, k2, k3⟩
    have R := Lib.hid (And.intro k1 (And.intro k2 k3))
    clear k1 k2 k3
    go_wp2_with fail
    go_ret2
    exact ⟨b, rfl, R.out⟩
end
end Go.Proofs.YtjdamlmoegippaaDoor.dk.pv
namespace Go.Proofs.YtjdamlmoegippaaDoor.dk.pv
open Go.RowKit
variable {P : Nat → Prop}
section
variable {w w' : World} {g N sb hb : Nat} {wv : Value} {su : Nat → Option Nat} {ws : List (Nat × Nat)} {rg : List Value} {c p : Int} {d : Bool} {K : Nat}
end
/-- A disk of the call's own. -/
structure LK (P : Nat → Prop) (w0 w : World) (g N sb hb : Nat) (wv : Value) (su : Nat → Option Nat) (ws : List (Nat × Nat)) (rg : List Value) (c p : Int) (d : Bool) (K : Nat) : Prop where
  dk : DK P w g N sb hb wv su ws rg c p d K
  b : Below w0.heap.size w0 w
  og : w0.heap.size ≤ g
  os : w0.heap.size ≤ sb
  oh : w0.heap.size ≤ hb
  ov : ∀ k, wv.ownBlock = some k → w0.heap.size ≤ k
section
variable {w0 w w' : World} {g N sb hb : Nat} {wv wv' : Value} {su su' : Nat → Option Nat} {ws ws' : List (Nat × Nat)} {rg rg' : List Value} {c p c' p' : Int} {d d' : Bool} {K K' : Nat}
theorem LK.step (h : LK P w0 w g N sb hb wv su ws rg c p d K) (k : DkW P w w' g N sb hb wv wv' su' ws' rg' c' p' d' K') : LK P w0 w' g N sb hb wv' su' ws' rg' c' p' d' K' := by
  refine ⟨k.dk, Mods.below h.b k.m h.b.size (fun b hb' => ?_), h.og, h.os, h.oh, fun j hj => ?_⟩
  · rcases hb' with rfl | rfl | rfl | e
    · exact h.og
    · exact h.os
    · exact h.oh
    · exact h.ov b e
  · rcases k.an j hj with e | e
    · exact h.ov j e
    · have := h.b.size; omega
theorem LK.below (h : LK P w0 w g N sb hb wv su ws rg c p d K) (b : Below w.heap.size w w') : LK P w0 w' g N sb hb wv su ws rg c p d K :=
  ⟨h.dk.below b, h.b.trans (b.mono h.b.size), h.og, h.os, h.oh, h.ov⟩
end
section
variable {w w' : World} {g N sb hb : Nat} {wv : Value} {su : Nat → Option Nat} {ws : List (Nat × Nat)} {rg : List Value} {c p : Int} {d : Bool} {K : Nat}
theorem DK.range (h : DK P w g N sb hb wv su ws rg c p d K) : w.rangeAt g 4 rg := fun j v hv => by
  have hj : j < rg.length := (List.getElem?_eq_some_iff.1 hv).1
  rw [cell_of_row _ _ _ _ _ _ h.row, dcells_rg h.len j (by rw [← h.len]; exact hj), hv]
theorem DK.there (h : DK P w g N sb hb wv su ws rg c p d K) : w.there g 4 64 := fun j hj => by
  refine ⟨?_, h.fz _⟩
  rw [cell_of_row _ _ _ _ _ _ h.row, dcells_rg h.len j hj, List.getElem?_eq_getElem (by rw [h.len]; exact hj)]
  rfl
end
end Go.Proofs.YtjdamlmoegippaaDoor.dk.pv
namespace Go.Proofs.YtjdamlmoegippaaDoor.dk.pv
open Go.RowKit
section
variable {P P' S : Nat → Prop} {w0 w w' : World} {g N sb hb : Nat} {wv : Value} {su : Nat → Option Nat} {ws : List (Nat × Nat)} {rg : List Value} {c p : Int} {d : Bool} {K K' : Nat}
theorem TX.to {v : Value} {xs : List Nat} (h : TX P w v xs) (m : Mods S w w') (hS : ∀ b cs, P b → w.heap[b]? = some (.cells cs 5 (0, 0)) → ¬ S b) (hP : ∀ b, b < w.heap.size → P b → P' b) : TX P' w' v xs := by
  obtain ⟨b, h0, rfl, h1⟩ := h
  have hl := (Array.getElem?_eq_some_iff.1 h1).1
  exact ⟨b, hP b hl h0, rfl, (m.block b hl (hS b _ h0 h1)).trans h1⟩
theorem SM.to {f : Lit → Option Value} {su : Nat → Option Nat} (h : SM P w f su) (m : Mods S w w') (hS : ∀ b cs, P b → w.heap[b]? = some (.cells cs 5 (0, 0)) → ¬ S b) (hP : ∀ b, b < w.heap.size → P b → P' b) : SM P' w' f su := fun s => by
  rcases h s with h1 | ⟨y, v, h1, h2, h3, h4⟩
  · exact .inl h1
  · exact .inr ⟨y, v, h1, h2, h3.to m hS hP, h4⟩
theorem WS.to (m : Mods S w w') (hS : ∀ b cs, P b → w.heap[b]? = some (.cells cs 5 (0, 0)) → ¬ S b) (hP : ∀ b, b < w.heap.size → P b → P' b) : ∀ {ws : List (Nat × Nat)} {vs : List Value}, WS P w ws vs → WS P' w' ws vs
  | [], _, h => h
  | (s, y) :: r, _, h => by
    obtain ⟨v, vs', e, h1, h2, h3, h4⟩ := h
    exact ⟨v, vs', e, h1, h2.to m hS hP, h3, WS.to m hS hP h4⟩
/-- Blocks that are not a disk's are turned; texts lie in blocks of another kind. -/
theorem DK.to (h : DK P w g N sb hb wv su ws rg c p d K) (m : Mods S w w') (hd : ∀ b, S b → ¬ Dt g sb hb wv b) (hS : ∀ b cs, P b → w.heap[b]? = some (.cells cs 5 (0, 0)) → ¬ S b) (hP : ∀ b, b < w.heap.size → P b → P' b) : DK P' w' g N sb hb wv su ws rg c p d K := by
  have hn : ∀ b, Dt g sb hb wv b → ¬ S b := fun b hb' hs => hd b hs hb'
  obtain ⟨n1, f1, m1, b1, s1⟩ := h.sure
  obtain ⟨n2, f2, m2, b2, s2⟩ := h.shown
  obtain ⟨vs, r, q⟩ := h.waits
  exact ⟨h.n1, h.n2, (m.block g h.lt (hn g (.inl rfl))).trans h.row, h.len, ⟨n1, f1, m1.mods m (hn sb (.inr (.inl rfl))), b1, s1.to m hS hP⟩, ⟨n2, f2, m2.mods m (hn hb (.inr (.inr (.inl rfl)))), b2, s2.to m hS hP⟩, ⟨vs, r.mods m (fun k hk => hn k (.inr (.inr (.inr hk)))), WS.to m hS hP q⟩, h.ne, h.wl⟩
theorem DK.more (h : DK P w g N sb hb wv su ws rg c p d K) (h1 : K ≤ K') (h2 : K' ≤ 1000000) : DK P w g N sb hb wv su ws rg c p d K' := by
  obtain ⟨n1, f1, m1, b1, s1⟩ := h.sure
  obtain ⟨n2, f2, m2, b2, s2⟩ := h.shown
  exact ⟨h.n1, h.n2, h.row, h.len, ⟨n1, f1, m1, by omega, s1⟩, ⟨n2, f2, m2, by omega, s2⟩, h.waits, h.ne, h2⟩
theorem DkW.more {wv' : Value} (h : DkW P w w' g N sb hb wv wv' su ws rg c p d K) (h1 : K ≤ K') (h2 : K' ≤ 1000000) : DkW P w w' g N sb hb wv wv' su ws rg c p d K' := ⟨h.dk.more h1 h2, h.m, h.an⟩
theorem DkW.of_below (h : DK P w g N sb hb wv su ws rg c p d K) (b : Below w.heap.size w w') : DkW P w w' g N sb hb wv wv su ws rg c p d K := ⟨h.below b, Mods.of_below b, anew_same _ _⟩
/-- Nothing of a disk is in a block of other cells. -/
theorem DK.not {b : Nat} {cs : Array Value} {t : TypeId} {fr : Nat × Nat} (h : DK P w g N sb hb wv su ws rg c p d K) (h1 : w.heap[b]? = some (.cells cs t fr)) (h2 : t ≠ 94) (h3 : t ≠ 100) : ¬ Dt g sb hb wv b := by
  obtain ⟨n1, f1, m1, _⟩ := h.sure
  obtain ⟨n2, f2, m2, _⟩ := h.shown
  obtain ⟨vs, r, _⟩ := h.waits
  obtain ⟨es1, k1, hm1⟩ := m1.isMap
  obtain ⟨es2, k2, hm2⟩ := m2.isMap
  intro hd
  rcases hd with rfl | rfl | rfl | hd
  · rw [h.row] at h1; injection h1 with h1; injection h1 with _ e _; exact h2 e.symm
  · rw [hm1] at h1; cases h1
  · rw [hm2] at h1; cases h1
  · obtain ⟨_, cs', hc⟩ := r.lt b hd
    rw [hc] at h1; injection h1 with h1; injection h1 with _ e _; exact h3 e.symm
/-- A plan. -/
def PP (p : Int) : Prop := p = -1 ∨ (0 ≤ p ∧ p ≤ 9223372036854775807)
theorem PP.pl {p : Int} (h : PP p) (h0 : p ≠ 0) : PP (pl p) := by
  unfold PP Go.Proofs.YtjdamlmoegippaaDoor.dk.pl at *
  split <;> omega
end
end Go.Proofs.YtjdamlmoegippaaDoor.dk.pv
