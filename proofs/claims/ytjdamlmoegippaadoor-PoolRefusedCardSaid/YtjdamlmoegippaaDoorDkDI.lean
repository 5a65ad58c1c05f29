/-
  Contracts: disk.Flush, disk.Crash, disk.Read, disk.Sure, disk.Fail; Write of a disk that goes down. Condition: the disk lies in memory as said.
-/
import Derived.Test.YtjdamlmoegippaaDoorDkDF
namespace Go.Proofs.YtjdamlmoegippaaDoor.dk
open Go.RowKit
theorem lastW_none (s : Nat) : ∀ ws : List (Nat × Nat), ws.any (fun a => a.1 == s) = false → lastW s ws = none
  | [], _ => rfl
  | (a, b) :: r, h => by
    rw [List.any_cons, Bool.or_eq_false_iff] at h
    show (match lastW s r with | some y' => some y' | none => if a = s then some b else none) = none
    rw [lastW_none s r h.2]
    simp at h
    simp [h.1]
/-- A disk while its writes are gone through. -/
structure SK (w w' : World) (g N sb hb : Nat) (wv : Value) (su sh : Nat → Option Nat) (n : Nat) (ws : List (Nat × Nat)) (rg : List Value) (c p : Int) (d : Bool) (K : Nat) : Prop where
  row : w'.heap[g]? = some (.cells (dcells N sb hb wv rg c p d) 94 (0, 0))
  sure : ∃ m f, MapV Tryd.prog 22 w' sb m f ∧ m + ws.length ≤ K + n ∧ SM w' f su
  shown : ∃ m f, MapV Tryd.prog 22 w' hb m f ∧ m ≤ K ∧ SM w' f sh
  m : Mods (fun k => k = sb ∨ k = hb) w w'
section
variable {w w' w'' : World} {g N sb hb : Nat} {wv : Value} {su su' sh sh' : Nat → Option Nat} {n : Nat} {ws : List (Nat × Nat)} {rg : List Value} {c p : Int} {d : Bool} {K : Nat}
theorem SK.below (h : SK w w' g N sb hb wv su sh n ws rg c p d K) (b : Below w'.heap.size w' w'') : SK w w'' g N sb hb wv su sh n ws rg c p d K := by
  have m : Mods (fun _ => False) w' w'' := Mods.of_below b
  obtain ⟨n1, f1, m1, b1, s1⟩ := h.sure
  obtain ⟨n2, f2, m2, b2, s2⟩ := h.shown
  exact ⟨(m.block g (Array.getElem?_eq_some_iff.1 h.row).1 id).trans h.row, ⟨n1, f1, m1.mods m id, b1, s1.mods m (fun _ _ _ => id)⟩, ⟨n2, f2, m2.mods m id, b2, s2.mods m (fun _ _ _ => id)⟩, h.m.trans m (fun _ hf => hf.elim)⟩
theorem SK.kinds (h : SK w w' g N sb hb wv su sh n ws rg c p d K) : (∀ b cs, w'.heap[b]? = some (.cells cs 5 (0, 0)) → ¬ b = sb ∧ ¬ b = hb) ∧ g ≠ sb ∧ g ≠ hb := by
  obtain ⟨n1, f1, m1, b1, s1⟩ := h.sure
  obtain ⟨n2, f2, m2, b2, s2⟩ := h.shown
  obtain ⟨es1, k1, hm1⟩ := m1.isMap
  obtain ⟨es2, k2, hm2⟩ := m2.isMap
  refine ⟨fun b cs hb' => ⟨fun e => ?_, fun e => ?_⟩, fun e => ?_, fun e => ?_⟩
  · rw [e, hm1] at hb'; cases hb'
  · rw [e, hm2] at hb'; cases hb'
  · have := h.row; rw [e, hm1] at this; cases this
  · have := h.row; rw [e, hm2] at this; cases this
/-- One more is sure. -/
theorem SK.store (h : SK w w' g N sb hb wv su sh n ws rg c p d K) (hne : sb ≠ hb) (hK : K + n < 2000000) {s y : Nat} {v : Value} (hs : s < 65536) (hv : TX w' v (tx y)) (hy : y < 256) (h1 : su' s = some y) (h2 : ∀ j, j ≠ s → su' j = su j) :
    ∃ w'', (Instr.mapUpdate 90 (.map (some sb)) (.int .u32 s) v).run Tryd.prog w' = .ok () w'' ∧ SK w w'' g N sb hb wv su' sh (n + 1) ws rg c p d K ∧ Mods (fun k => k = sb) w' w'' := by
  obtain ⟨n1, f1, m1, b1, s1⟩ := h.sure
  obtain ⟨n2, f2, m2, b2, s2⟩ := h.shown
  obtain ⟨kb, kg1, kg2⟩ := h.kinds
  obtain ⟨w'', hst, m27, hm7, hz7⟩ := m1.store keyed23 Tryd.underlying90 (by unfold maxLen; omega) (v := v) (key23 s (by omega))
  have kA : ∀ b cs, w'.heap[b]? = some (.cells cs 5 (0, 0)) → ¬ b = sb := fun b cs hb' => (kb b cs hb').1
  refine ⟨w'', hst, ⟨(hm7.block g (Array.getElem?_eq_some_iff.1 h.row).1 kg1).trans h.row, ⟨_, _, m27, ?_, SM_upd (s1.mods hm7 kA) (hv.mods hm7 kA) hy h1 h2⟩, ⟨n2, f2, m2.mods hm7 hne.symm, b2, s2.mods hm7 kA⟩, h.m.trans hm7 (fun b hb => .inl (.inl hb))⟩, hm7⟩
  split <;> omega
/-- One sector shows what is sure. -/
theorem SK.drop (h : SK w w' g N sb hb wv su sh n ws rg c p d K) (hne : sb ≠ hb) {s : Nat} (hs : s < 65536) (h1 : sh' s = none) (h2 : ∀ j, j ≠ s → sh' j = sh j) :
    ∃ w'', (∀ ty, (Builtin.delete_ #[90, 22] ty #[.map (some hb), .int .u32 s]).run Tryd.prog w' = .ok (.tuple #[]) w'') ∧ SK w w'' g N sb hb wv su sh' n ws rg c p d K ∧ Mods (fun k => k = hb) w' w'' := by
  obtain ⟨n1, f1, m1, b1, s1⟩ := h.sure
  obtain ⟨n2, f2, m2, b2, s2⟩ := h.shown
  obtain ⟨kb, kg1, kg2⟩ := h.kinds
  obtain ⟨w'', hst, m27, hm7, hz7⟩ := m2.drop keyed23 Tryd.underlying90 (key23 s (by omega))
  have kA : ∀ b cs, w'.heap[b]? = some (.cells cs 5 (0, 0)) → ¬ b = hb := fun b cs hb' => (kb b cs hb').2
  refine ⟨w'', hst, ⟨(hm7.block g (Array.getElem?_eq_some_iff.1 h.row).1 kg2).trans h.row, ⟨n1, f1, m1.mods hm7 hne, b1, s1.mods hm7 kA⟩, ⟨_, _, m27, ?_, SM_del (s2.mods hm7 kA) h1 h2⟩, h.m.trans hm7 (fun b hb => .inl (.inr hb))⟩, hm7⟩
  split <;> omega
/-- The drawn number is of no matter. -/
theorem SK.drew (h : SK w w' g N sb hb wv su sh n ws rg c p d K) : SK w w'.drew g N sb hb wv su sh n ws rg c p d K :=
  h.below ⟨rfl, rfl, rfl, Nat.le_refl _, fun _ _ => rfl⟩
end
end Go.Proofs.YtjdamlmoegippaaDoor.dk
namespace Go.Proofs.YtjdamlmoegippaaDoor.dk
open Go.RowKit
section
variable {w w' : World} {g N sb hb : Nat} {wv : Value} {su : Nat → Option Nat} {ws : List (Nat × Nat)} {rg : List Value} {c p : Int} {d : Bool} {K : Nat}
theorem anew_same (w : World) (v : Value) : Anew w v v := fun _ hk => .inl hk
set_option maxRecDepth 100000 in
set_option maxHeartbeats 1000000 in
theorem writeD_down (h : DK w g N sb hb wv su ws rg c 0 false K) (s : Nat) (x : Option Addr) (k : Nat) (hs : s < N) :
    Calls Tryd.prog 22 #[.pointer (some ⟨g, 0, none⟩), .int .u32 s, .slice x 512 k] w (DkP w g N sb hb wv su ws rg c 0 true K (.int .i64 30)) := by
  have A := Lib.hid (awakeD h)
  have Hs := Lib.hid (hasD h s)
  rw [if_pos hs] at Hs
  have F := Lib.hid (fitsD x 512 k (by omega) w)
  have O := Lib.hid (orD w.heap.size [0, 0, 0] (by simp) (w.alloc (.cells #[.int .i64 0, .int .i64 0, .int .i64 0] 34)) (fun j z hj => by
    rw [cell_of_row _ _ _ _ _ _ (heap_alloc_new w _)]; rcases j with _ | _ | _ | j <;> simp at hj <;> subst hj <;> rfl))
  obtain ⟨w1, hw1⟩ : ∃ w1, w1 = w.alloc (.cells #[.int .i64 0, .int .i64 0, .int .i64 0] 34) := ⟨_, rfl⟩
  have hbw1 : Below w.heap.size w w1 := by rw [hw1]; exact (Below.refl _ _).alloc (Nat.le_refl _) _
  have M := Lib.hid (mayD_no (h.below hbw1))
  have HB1 := Lib.hid hbw1
  rw [← hw1] at O
  have HW1 := Lib.hid hw1
  clear h hw1 hbw1
  go_enter Tryd.func22, Tryd.ntmps22
  go_wp2_with fail
  refine A.out.mono ?_
  rintro e w' ⟨rfl, rfl⟩
  go_wp2_with fail
  refine Hs.out.mono ?_
  rintro e w' ⟨rfl, rfl⟩
  go_wp2_with fail
  refine F.out.mono ?_
  rintro e w' ⟨rfl, rfl⟩
  go_wp2_with fail
  rw [← HW1.out]
  refine O.out.mono ?_
  rintro e w' ⟨rfl, rfl⟩
  go_wp2_with fail
  refine M.out.mono ?_
  rintro e w2 ⟨rfl, d2, m2⟩
  have D2 := Lib.hid d2
  have M2 := Lib.hid m2
  clear d2 m2
  go_wp2_with fail
  go_ret
  exact ⟨wv, rfl, D2.out, ((Mods.of_below HB1.out).trans M2.out (fun b hb => .inl hb)).mono (fun b hb' => .inl (.inl hb')), anew_same _ _⟩
/-- What a sector shows. -/
def shwn (su : Nat → Option Nat) (ws : List (Nat × Nat)) (s : Nat) : Option Nat := match lastW s ws with | some y => some y | none => su s
/-- Bytes handed out in a new block. -/
def OutP (w : World) (o : Option Nat) (e : Ending) (w' : World) : Prop :=
  ∃ b, e = .returned (.tuple #[.slice (some ⟨b, 0, none⟩) 512 512, .int .i64 0]) ∧ w'.heap[b]? = some (.cells (bcells (padT o)) 5 (0, 0)) ∧ w.heap.size ≤ b ∧ Below w.heap.size w w'
theorem DK.looks (h : DK w g N sb hb wv su ws rg c p d K) (s : Nat) (hs : s < 65536) :
    (∃ v, (Instr.lookup 90 (.map (some sb)) (.int .u32 s) false).run Tryd.prog w = .ok v w ∧ ((su s = none ∧ v = .slice none 0 0) ∨ ∃ y, su s = some y ∧ TX w v (tx y))) ∧
    (∃ v, (Instr.lookup 90 (.map (some hb)) (.int .u32 s) true).run Tryd.prog w = .ok (.tuple #[v, .bool (lastW s ws).isSome]) w ∧ ((lastW s ws = none ∧ v = .slice none 0 0) ∨ ∃ y, lastW s ws = some y ∧ TX w v (tx y))) := by
  obtain ⟨n1, f1, m1, _, s1⟩ := h.sure
  obtain ⟨n2, f2, m2, _, s2⟩ := h.shown
  have l1 := m1.look keyed23 Tryd.underlying90 (zero32 _) (key23 s (by omega))
  have l2 := m2.look_ok keyed23 Tryd.underlying90 (zero32 _) (key23 s (by omega))
  refine ⟨⟨_, l1, ?_⟩, ?_⟩
  · rcases s1 s with ⟨a, b⟩ | ⟨y, v, a, b, t, _⟩
    · exact .inl ⟨a, by rw [b]; rfl⟩
    · exact .inr ⟨y, a, by rw [b]; exact t⟩
  · rcases s2 s with ⟨a, b⟩ | ⟨y, v, a, b, t, _⟩
    · have a' : lastW s ws = none := a
      exact ⟨.slice none 0 0, by rw [l2, b, a']; rfl, .inl ⟨a', rfl⟩⟩
    · have a' : lastW s ws = some y := a
      exact ⟨v, by rw [l2, b, a']; rfl, .inr ⟨y, a', t⟩⟩
set_option maxRecDepth 100000 in
set_option maxHeartbeats 1000000 in
theorem readD_ok (h : DK w g N sb hb wv su ws rg c p false K) (s : Nat) (hs : s < N) : Calls Tryd.prog 25 #[.pointer (some ⟨g, 0, none⟩), .int .u32 s] w (OutP w (shwn su ws s)) := by
  have n2 := h.n2
  have A := Lib.hid (awakeD h)
  have Hs := Lib.hid (hasD h s)
  rw [if_pos hs] at Hs
  have O := Lib.hid (orD w.heap.size [0, 0] (by simp) (w.alloc (.cells #[.int .i64 0, .int .i64 0] 34)) (fun j z hj => by
    rw [cell_of_row _ _ _ _ _ _ (heap_alloc_new w _)]; rcases j with _ | _ | j <;> simp at hj <;> subst hj <;> rfl))
  obtain ⟨w1, hw1⟩ : ∃ w1, w1 = w.alloc (.cells #[.int .i64 0, .int .i64 0] 34) := ⟨_, rfl⟩
  have hbw1 : Below w.heap.size w w1 := by rw [hw1]; exact (Below.refl _ _).alloc (Nat.le_refl _) _
  have h1 := h.below hbw1
  have HB1 := Lib.hid hbw1
  rw [← hw1] at O
  have HW1 := Lib.hid hw1
  have e1 := h1.c1
  have e2 := h1.c2
  obtain ⟨⟨va, la, ra⟩, ⟨vb, lb, rb⟩⟩ := h1.looks s (by omega)
  have F : ∀ (o : Option Nat) (v : Value), ((o = none ∧ v = .slice none 0 0) ∨ ∃ y, o = some y ∧ TX w1 v (tx y)) → Calls Tryd.prog 50 #[v, .int .i64 512] w1 (OutP w o) := fun o v hv =>
    (padD hv).mono fun e w' ⟨a, b⟩ => ⟨_, a, by rw [b]; exact heap_alloc_new _ _, HB1.out.size, by rw [b]; exact HB1.out.alloc HB1.out.size _⟩
  have FF := Lib.hid F
  clear h h1 hw1 hbw1 F
  unfold shwn
  cases hl : lastW s ws with
  | none =>
    rw [hl] at lb
    have lb' : (Instr.lookup 90 (.map (some hb)) (.int .u32 s) true).run Tryd.prog w1 = .ok (.tuple #[vb, .bool false]) w1 := lb
    have FA := Lib.hid (FF.out (su s) va ra)
    clear lb hl ra rb
    go_enter Tryd.func25, Tryd.ntmps25
    go_wp2_with fail
    refine A.out.mono ?_
    rintro e w' ⟨rfl, rfl⟩
    go_wp2_with fail
    refine Hs.out.mono ?_
    rintro e w' ⟨rfl, rfl⟩
    go_wp2_with fail
    rw [← HW1.out]
    refine O.out.mono ?_
    rintro e w' ⟨rfl, rfl⟩
    go_wp2_with fail
    refine FA.out.mono ?_
    rintro e w2 ⟨b, rfl, k1, k2, k3⟩
    have R := Lib.hid (And.intro k1 (And.intro k2 k3))
    clear k1 k2 k3
    go_wp2_with fail
    go_ret2
    exact ⟨b, rfl, R.out⟩
  | some y =>
    rw [hl] at lb rb
    have lb' : (Instr.lookup 90 (.map (some hb)) (.int .u32 s) true).run Tryd.prog w1 = .ok (.tuple #[vb, .bool true]) w1 := lb
    have FA := Lib.hid (FF.out (some y) vb rb)
    clear lb hl ra rb
    go_enter Tryd.func25, Tryd.ntmps25
    go_wp2_with fail
    refine A.out.mono ?_
    rintro e w' ⟨rfl, rfl⟩
    go_wp2_with fail
    refine Hs.out.mono ?_
    rintro e w' ⟨rfl, rfl⟩
    go_wp2_with fail
    rw [← HW1.out]
    refine O.out.mono ?_
    rintro e w' ⟨rfl, rfl⟩
    go_wp2_with fail
    refine FA.out.mono ?_
    rintro e w2 ⟨b, rfl, k1, k2, k3⟩
    have R := Lib.hid (And.intro k1 (And.intro k2 k3))
    clear k1 k2 k3
    go_wp2_with fail
    go_ret2
    exact ⟨b, rfl, R.out⟩
end
end Go.Proofs.YtjdamlmoegippaaDoor.dk
