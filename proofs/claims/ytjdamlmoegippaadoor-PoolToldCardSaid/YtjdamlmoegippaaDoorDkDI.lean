/-
  Contracts: disk.Flush, disk.Crash, disk.Read, disk.Sure, disk.Fail; Write of a disk that goes down. Condition: the disk lies in memory as said.
-/
import Derived.Test.YtjdamlmoegippaaDoorDkDE
namespace Go.Proofs.YtjdamlmoegippaaDoor.dk
open Go.RowKit
theorem step_app_run {P : Program} {ops : Array Oper} {o : Oper} {a : Act} {w : World} {K : Act → World → Prop} {Q : Exit → Act → World → Prop} {E : Prop} (hgd : o.guard = none) (d s : Operand) (T : TypeId)
    (ho : o.op = .call { callee := .builtin .append, args := #[d, s], argTypes := #[T, T] }) (hty : o.type = T) {x y v : Value} {w' : World} (hd : a.eval d = x) (hs : a.eval s = y) (hr : (Builtin.append_ #[T, T] T #[x, y]).run P w = .ok v w')
    (hK : K (a.put o.dst v) w') : if Region.wanted o (yielded ops a.tmps) = true then Oper.wp P o a w K Q else E := by
  have hw : Region.wanted o (yielded ops a.tmps) = true := by simp [Region.wanted, hgd]
  rw [if_pos hw]
  unfold Oper.wp
  simp only [execOp, ho, hty, resolve, invoke, builtin, Sem.run_bind, Sem.run_pure, Result.andThen_ok, List.map_toArray, List.map_cons, List.map_nil, hd, hs, hr]
  exact hK
/-- The plan behind a call. -/
def pl (p : Int) : Int := if p = -1 then -1 else p - 1
section
variable {w w' : World} {g N sb hb : Nat} {wv : Value} {su : Nat → Option Nat} {ws : List (Nat × Nat)} {rg : List Value} {c p : Int} {d : Bool} {K : Nat}
theorem mayD_ok (h : DK w g N sb hb wv su ws rg c p d K) (hc : 0 ≤ c) (hc2 : c ≤ 1000000) (hp : p = -1 ∨ 1 ≤ p) (hp2 : p ≤ 9223372036854775807) : Calls Tryd.prog 45 #[.pointer (some ⟨g, 0, none⟩)] w (MayP w g N sb hb wv su ws rg (c + 1) (pl p) d K true) := by
  unfold pl
  rcases hp with rfl | hp
  · rw [if_pos rfl]; exact mayD_free h hc hc2
  · rw [if_neg (by omega)]; exact mayD_plan h hc hc2 hp hp2
/-- A disk behind a call. -/
def DkP (w : World) (g N sb hb : Nat) (wv : Value) (su : Nat → Option Nat) (ws : List (Nat × Nat)) (rg : List Value) (c p : Int) (d : Bool) (K : Nat) (r : Value) (e : Ending) (w' : World) : Prop :=
  ∃ wv', e = .returned r ∧ DkW w w' g N sb hb wv wv' su ws rg c p d K
set_option maxRecDepth 100000 in
set_option maxHeartbeats 2000000 in
theorem writeD_ok (h : DK w g N sb hb wv su ws rg c p false K) (s y : Nat) (v : Value) (hs : s < N) (hv : TX w v (tx y)) (hy : YB y) (hc : 0 ≤ c) (hc2 : c ≤ 1000000) (hp : p = -1 ∨ 1 ≤ p) (hp2 : p ≤ 9223372036854775807) (hK : K < 1000000) :
    Calls Tryd.prog 22 #[.pointer (some ⟨g, 0, none⟩), .int .u32 s, v] w (DkP w g N sb hb wv su (ws ++ [(s, y)]) rg (c + 1) (pl p) false (K + 1) (.int .i64 0)) := by
  have n2 := h.n2
  have A := Lib.hid (awakeD h)
  have Hs := Lib.hid (hasD h s)
  rw [if_pos hs] at Hs
  obtain ⟨b, rfl, hb0⟩ := hv
  rw [tx_len]
  have F := Lib.hid (fitsD (some ⟨b, 0, none⟩) 512 512 (by omega) w)
  have O := Lib.hid (orD w.heap.size [0, 0, 0] (by simp) (w.alloc (.cells #[.int .i64 0, .int .i64 0, .int .i64 0] 34)) (fun j z hj => by
    rw [cell_of_row _ _ _ _ _ _ (heap_alloc_new w _)]; rcases j with _ | _ | _ | j <;> simp at hj <;> subst hj <;> rfl))
  obtain ⟨w1, hw1⟩ : ∃ w1, w1 = w.alloc (.cells #[.int .i64 0, .int .i64 0, .int .i64 0] 34) := ⟨_, rfl⟩
  have hbw1 : Below w.heap.size w w1 := by rw [hw1]; exact (Below.refl _ _).alloc (Nat.le_refl _) _
  have h1 := h.below hbw1
  have T1 : Hid (TX w1 (.slice (some ⟨b, 0, none⟩) 512 512) (tx y)) := by
    have : TX w (.slice (some ⟨b, 0, none⟩) 512 512) (tx y) := ⟨b, by rw [tx_len], hb0⟩
    exact this.below hbw1
  have M := Lib.hid (mayD_ok h1 hc hc2 hp hp2)
  have HB1 := Lib.hid hbw1
  have D1 := Lib.hid h1
  rw [← hw1] at O
  have HW1 := Lib.hid hw1
  have PC : Hid (0 ≤ c ∧ c ≤ 1000000 ∧ K < 1000000 ∧ YB y ∧ s < 65536) := ⟨hc, hc2, hK, hy, by omega⟩
  clear h hb0 hw1 hbw1 h1 hc hc2 hp hp2 hK hy
  go_enter Tryd.func22, Tryd.ntmps22
  go_wp2_with fail
  refine A.out.mono ?_
  rintro e w' ⟨rfl, rfl⟩
  go_wp2_with fail
  refine Hs.out.mono ?_
  rintro e w' ⟨rfl, rfl⟩
  go_wp2_with fail
  refine F.out.mono ?_
  rintro e w' ⟨rfl, rfl⟩
  go_wp2_with fail
  rw [← HW1.out]
  refine O.out.mono ?_
  rintro e w' ⟨rfl, rfl⟩
  go_wp2_with fail
  refine M.out.mono ?_
  rintro e w2 ⟨rfl, d2, m2⟩
  have D2 := Lib.hid d2
  have M2 := Lib.hid m2
  have kb := D1.out.kinds
  have T2 := Lib.hid (T1.out.mods m2 (fun b' cs h' e => kb.1 b' cs h' (.inl e)))
  clear d2 m2 kb
  go_wp2_with fail
  refine (copiedD T2.out).mono ?_
  rintro e w3 ⟨rfl, hw3⟩
  have HW3 := Lib.hid hw3
  clear hw3
  go_wp2_with fail
  obtain ⟨V, hV⟩ : ∃ V, V = Value.slice (some ⟨w2.heap.size, 0, none⟩) 512 512 := ⟨_, rfl⟩
  obtain ⟨q, hq⟩ : ∃ q, q = w3.heap.size := ⟨_, rfl⟩
  obtain ⟨w4, hw4⟩ : ∃ w4, w4 = w3.alloc (.cells #[.int .u32 s, V] 100) := ⟨_, rfl⟩
  have hw3 := HW3.out
  have b23 : Below w2.heap.size w2 w3 := by rw [hw3]; exact (Below.refl _ _).alloc (Nat.le_refl _) _
  have b34 : Below w3.heap.size w3 w4 := by rw [hw4]; exact (Below.refl _ _).alloc (Nat.le_refl _) _
  have d4 := (D2.out.below b23).below b34
  have t3 : TX w3 V (tx y) := ⟨w2.heap.size, by rw [hV, tx_len], by rw [hw3]; exact heap_alloc_new _ _⟩
  have t4 := t3.below b34
  have q4 : w4.heap[q]? = some (.cells #[.int .u32 s, V] 100 (0, 0)) := by rw [hw4, hq]; exact heap_alloc_new _ _
  have hqn : ∀ k, wv.ownBlock = some k → k ≠ q := fun k hk => by
    obtain ⟨vs, r, _⟩ := D2.out.waits
    have := (r.lt k hk).1
    have h1 := b23.size
    omega
  have d4' : DK w4.drew g N sb hb wv su ws rg (c + 1) (pl p) false K := d4.heap rfl
  have t4' : TX w4.drew V (tx y) := t4.heap rfl
  obtain ⟨z, k, w5, w7, r1, r2, r3, r4, r5, r6, r7⟩ := d4'.write PC.out.2.2.2.2 t4' PC.out.2.2.2.1 PC.out.2.2.1 q4 hqn
  have e3 := d4.c3
  have e3' : (w4.alloc (.cells #[.int .u32 s, V] 100)).cell? ⟨g, 3, none⟩ = some wv := (d4.below ((Below.refl _ _).alloc (Nat.le_refl _) _)).c3
  have eq0 : w4.cell? ⟨q, 0, none⟩ = some (.int .u32 s) := by rw [cell_of_row _ _ _ _ _ _ q4]; rfl
  have eq1 : w4.cell? ⟨q, 1, none⟩ = some V := by rw [cell_of_row _ _ _ _ _ _ q4]; rfl
  obtain ⟨w6, hw6⟩ : ∃ w6, w6 = w5.setCell ⟨g, 3, none⟩ (.slice z (ws.length + 1) k) := ⟨_, rfl⟩
  rw [← hw6] at r4 r5 r6
  have HW6 := Lib.hid hw6
  clear hw6
  have R7 := Lib.hid r7
  have R1 := Lib.hid r1
  have R6 := Lib.hid r6
  obtain ⟨vs, rr, _⟩ := d4.waits
  have B14 : Hid (w2.heap.size ≤ w4.heap.size ∧ Below w2.heap.size w2 w4) := ⟨(b23.trans (b34.mono b23.size)).size, b23.trans (b34.mono b23.size)⟩
  obtain ⟨vx, vc, rfl, _, _⟩ := rr.form
  rw [← hV, ← hq, ← hw4]
  have HV := Lib.hid hV
  obtain ⟨vb, rfl⟩ : ∃ vb, V = .slice (some ⟨vb, 0, none⟩) 512 512 := ⟨_, hV⟩
  clear hw3 b23 b34 d4 t3 t4 q4 hqn d4' t4' r7 r1 r6 rr hV hq hw4
  go_region_law (refine step_app_run rfl (.tmp 32) (.tmp 34) 91 rfl rfl rfl rfl R1.out ?_)
  all_goals
    go_wp2_with fail
    rw [← HW6.out]
    refine wp_region_still_tail 7 (by kernel_rfl) (by kernel_rfl) ?_
    simp only [List.take_succ_cons, List.take_zero, List.drop_succ_cons, List.drop_zero]
    iterate 7 still_step
    refine wpStill_nil ?_
    change wpList _ _ _ _ _ w6.drew
    have r6 := R6.out
    go_wp2_with fail
    go_ret
    refine ⟨_, rfl, R7.out.dk, ?_, ?_⟩
    · have hm1 : Mods (Dt g sb hb (.slice vx ws.length vc)) w w2 := ((Mods.of_below HB1.out).trans M2.out (fun b hb => .inl hb)).mono (fun b hb' => .inl (.inl hb'))
      have hm2 : Mods (Dt g sb hb (.slice vx ws.length vc)) w w4 := hm1.trans (Mods.of_below (S := Dt g sb hb (.slice vx ws.length vc)) B14.out.2) (fun b hb => .inl hb)
      exact hm2.trans (T := Dt g sb hb (.slice vx ws.length vc)) ⟨R7.out.m.os, R7.out.m.tape, R7.out.m.output, R7.out.m.size, R7.out.m.block⟩ (fun b hb => .inl hb)
    · intro j hj
      rcases R7.out.an j hj with h1 | h1
      · exact .inl h1
      · have h2 := B14.out.1
        have h3 := M2.out.size
        have h4 := HB1.out.size
        have h5 : w4.heap.size ≤ j := h1
        exact .inr (by omega)
end
end Go.Proofs.YtjdamlmoegippaaDoor.dk
namespace Go.Proofs.YtjdamlmoegippaaDoor.dk
open Go.RowKit
theorem lastW_none (s : Nat) : ∀ ws : List (Nat × Nat), ws.any (fun a => a.1 == s) = false → lastW s ws = none
  | [], _ => rfl
  | (a, b) :: r, h => by
    rw [List.any_cons, Bool.or_eq_false_iff] at h
    show (match lastW s r with | some y' => some y' | none => if a = s then some b else none) = none
    rw [lastW_none s r h.2]
    simp at h
    simp [h.1]
/-- A disk while its writes are gone through. -/
structure SK (w w' : World) (g N sb hb : Nat) (wv : Value) (su sh : Nat → Option Nat) (n : Nat) (ws : List (Nat × Nat)) (rg : List Value) (c p : Int) (d : Bool) (K : Nat) : Prop where
  row : w'.heap[g]? = some (.cells (dcells N sb hb wv rg c p d) 94 (0, 0))
  sure : ∃ m f, MapV Tryd.prog 22 w' sb m f ∧ m + ws.length ≤ K + n ∧ SM w' f su
  shown : ∃ m f, MapV Tryd.prog 22 w' hb m f ∧ m ≤ K ∧ SM w' f sh
  m : Mods (fun k => k = sb ∨ k = hb) w w'
section
variable {w w' w'' : World} {g N sb hb : Nat} {wv : Value} {su su' sh sh' : Nat → Option Nat} {n : Nat} {ws : List (Nat × Nat)} {rg : List Value} {c p : Int} {d : Bool} {K : Nat}
theorem SK.below (h : SK w w' g N sb hb wv su sh n ws rg c p d K) (b : Below w'.heap.size w' w'') : SK w w'' g N sb hb wv su sh n ws rg c p d K := by
  have m : Mods (fun _ => False) w' w'' := Mods.of_below b
  obtain ⟨n1, f1, m1, b1, s1⟩ := h.sure
  obtain ⟨n2, f2, m2, b2, s2⟩ := h.shown
  exact ⟨(m.block g (Array.getElem?_eq_some_iff.1 h.row).1 id).trans h.row, ⟨n1, f1, m1.mods m id, b1, s1.mods m (fun _ _ _ => id)⟩, ⟨n2, f2, m2.mods m id, b2, s2.mods m (fun _ _ _ => id)⟩, h.m.trans m (fun _ hf => hf.elim)⟩
theorem SK.kinds (h : SK w w' g N sb hb wv su sh n ws rg c p d K) : (∀ b cs, w'.heap[b]? = some (.cells cs 5 (0, 0)) → ¬ b = sb ∧ ¬ b = hb) ∧ g ≠ sb ∧ g ≠ hb := by
  obtain ⟨n1, f1, m1, b1, s1⟩ := h.sure
  obtain ⟨n2, f2, m2, b2, s2⟩ := h.shown
  obtain ⟨es1, k1, hm1⟩ := m1.isMap
  obtain ⟨es2, k2, hm2⟩ := m2.isMap
  refine ⟨fun b cs hb' => ⟨fun e => ?_, fun e => ?_⟩, fun e => ?_, fun e => ?_⟩
  · rw [e, hm1] at hb'; cases hb'
  · rw [e, hm2] at hb'; cases hb'
  · have := h.row; rw [e, hm1] at this; cases this
  · have := h.row; rw [e, hm2] at this; cases this
/-- One more is sure. -/
theorem SK.store (h : SK w w' g N sb hb wv su sh n ws rg c p d K) (hne : sb ≠ hb) (hK : K + n < 2000000) {s y : Nat} {v : Value} (hs : s < 65536) (hv : TX w' v (tx y)) (hy : YB y) (h1 : su' s = some y) (h2 : ∀ j, j ≠ s → su' j = su j) :
    ∃ w'', (Instr.mapUpdate 90 (.map (some sb)) (.int .u32 s) v).run Tryd.prog w' = .ok () w'' ∧ SK w w'' g N sb hb wv su' sh (n + 1) ws rg c p d K ∧ Mods (fun k => k = sb) w' w'' := by
  obtain ⟨n1, f1, m1, b1, s1⟩ := h.sure
  obtain ⟨n2, f2, m2, b2, s2⟩ := h.shown
  obtain ⟨kb, kg1, kg2⟩ := h.kinds
  obtain ⟨w'', hst, m27, hm7, hz7⟩ := m1.store keyed23 Tryd.underlying90 (by unfold maxLen; omega) (v := v) (key23 s (by omega))
  have kA : ∀ b cs, w'.heap[b]? = some (.cells cs 5 (0, 0)) → ¬ b = sb := fun b cs hb' => (kb b cs hb').1
  refine ⟨w'', hst, ⟨(hm7.block g (Array.getElem?_eq_some_iff.1 h.row).1 kg1).trans h.row, ⟨_, _, m27, ?_, SM_upd (s1.mods hm7 kA) (hv.mods hm7 kA) hy h1 h2⟩, ⟨n2, f2, m2.mods hm7 hne.symm, b2, s2.mods hm7 kA⟩, h.m.trans hm7 (fun b hb => .inl (.inl hb))⟩, hm7⟩
  split <;> omega
/-- One sector shows what is sure. -/
theorem SK.drop (h : SK w w' g N sb hb wv su sh n ws rg c p d K) (hne : sb ≠ hb) {s : Nat} (hs : s < 65536) (h1 : sh' s = none) (h2 : ∀ j, j ≠ s → sh' j = sh j) :
    ∃ w'', (∀ ty, (Builtin.delete_ #[90, 22] ty #[.map (some hb), .int .u32 s]).run Tryd.prog w' = .ok (.tuple #[]) w'') ∧ SK w w'' g N sb hb wv su sh' n ws rg c p d K ∧ Mods (fun k => k = hb) w' w'' := by
  obtain ⟨n1, f1, m1, b1, s1⟩ := h.sure
  obtain ⟨n2, f2, m2, b2, s2⟩ := h.shown
  obtain ⟨kb, kg1, kg2⟩ := h.kinds
  obtain ⟨w'', hst, m27, hm7, hz7⟩ := m2.drop keyed23 Tryd.underlying90 (key23 s (by omega))
  have kA : ∀ b cs, w'.heap[b]? = some (.cells cs 5 (0, 0)) → ¬ b = hb := fun b cs hb' => (kb b cs hb').2
  refine ⟨w'', hst, ⟨(hm7.block g (Array.getElem?_eq_some_iff.1 h.row).1 kg2).trans h.row, ⟨n1, f1, m1.mods hm7 hne, b1, s1.mods hm7 kA⟩, ⟨_, _, m27, ?_, SM_del (s2.mods hm7 kA) h1 h2⟩, h.m.trans hm7 (fun b hb => .inl (.inr hb))⟩, hm7⟩
  split <;> omega
/-- The drawn number is of no matter. -/
theorem SK.drew (h : SK w w' g N sb hb wv su sh n ws rg c p d K) : SK w w'.drew g N sb hb wv su sh n ws rg c p d K :=
  h.below ⟨rfl, rfl, rfl, Nat.le_refl _, fun _ _ => rfl⟩
end
end Go.Proofs.YtjdamlmoegippaaDoor.dk
namespace Go.Proofs.YtjdamlmoegippaaDoor.dk
open Go.RowKit
section
variable {w w' : World} {g N sb hb : Nat} {wv : Value} {su : Nat → Option Nat} {ws : List (Nat × Nat)} {rg : List Value} {c p : Int} {d : Bool} {K : Nat}
theorem anew_same (w : World) (v : Value) : Anew w v v := fun _ hk => .inl hk
/-- What a sector shows. -/
def shwn (su : Nat → Option Nat) (ws : List (Nat × Nat)) (s : Nat) : Option Nat := match lastW s ws with | some y => some y | none => su s
/-- Bytes handed out in a new block. -/
def OutP (w : World) (o : Option Nat) (e : Ending) (w' : World) : Prop :=
  ∃ b, e = .returned (.tuple #[.slice (some ⟨b, 0, none⟩) 512 512, .int .i64 0]) ∧ w'.heap[b]? = some (.cells (bcells (padT o)) 5 (0, 0)) ∧ w.heap.size ≤ b ∧ Below w.heap.size w w'
theorem DK.looks (h : DK w g N sb hb wv su ws rg c p d K) (s : Nat) (hs : s < 65536) :
    (∃ v, (Instr.lookup 90 (.map (some sb)) (.int .u32 s) false).run Tryd.prog w = .ok v w ∧ ((su s = none ∧ v = .slice none 0 0) ∨ ∃ y, su s = some y ∧ TX w v (tx y))) ∧
    (∃ v, (Instr.lookup 90 (.map (some hb)) (.int .u32 s) true).run Tryd.prog w = .ok (.tuple #[v, .bool (lastW s ws).isSome]) w ∧ ((lastW s ws = none ∧ v = .slice none 0 0) ∨ ∃ y, lastW s ws = some y ∧ TX w v (tx y))) := by
  obtain ⟨n1, f1, m1, _, s1⟩ := h.sure
  obtain ⟨n2, f2, m2, _, s2⟩ := h.shown
  have l1 := m1.look keyed23 Tryd.underlying90 (zero32 _) (key23 s (by omega))
  have l2 := m2.look_ok keyed23 Tryd.underlying90 (zero32 _) (key23 s (by omega))
  refine ⟨⟨_, l1, ?_⟩, ?_⟩
  · rcases s1 s with ⟨a, b⟩ | ⟨y, v, a, b, t, _⟩
    · exact .inl ⟨a, by rw [b]; rfl⟩
    · exact .inr ⟨y, a, by rw [b]; exact t⟩
  · rcases s2 s with ⟨a, b⟩ | ⟨y, v, a, b, t, _⟩
    · have a' : lastW s ws = none := a
      exact ⟨.slice none 0 0, by rw [l2, b, a']; rfl, .inl ⟨a', rfl⟩⟩
    · have a' : lastW s ws = some y := a
      exact ⟨v, by rw [l2, b, a']; rfl, .inr ⟨y, a', t⟩⟩
set_option maxRecDepth 100000 in
set_option maxHeartbeats 1000000 in
theorem readD_ok (h : DK w g N sb hb wv su ws rg c p false K) (s : Nat) (hs : s < N) : Calls Tryd.prog 25 #[.pointer (some ⟨g, 0, none⟩), .int .u32 s] w (OutP w (shwn su ws s)) := by
  have n2 := h.n2
  have A := Lib.hid (awakeD h)
  have Hs := Lib.hid (hasD h s)
  rw [if_pos hs] at Hs
  have O := Lib.hid (orD w.heap.size [0, 0] (by simp) (w.alloc (.cells #[.int .i64 0, .int .i64 0] 34)) (fun j z hj => by
    rw [cell_of_row _ _ _ _ _ _ (heap_alloc_new w _)]; rcases j with _ | _ | j <;> simp at hj <;> subst hj <;> rfl))
  obtain ⟨w1, hw1⟩ : ∃ w1, w1 = w.alloc (.cells #[.int .i64 0, .int .i64 0] 34) := ⟨_, rfl⟩
  have hbw1 : Below w.heap.size w w1 := by rw [hw1]; exact (Below.refl _ _).alloc (Nat.le_refl _) _
  have h1 := h.below hbw1
  have HB1 := Lib.hid hbw1
  rw [← hw1] at O
  have HW1 := Lib.hid hw1
  have e1 := h1.c1
  have e2 := h1.c2
  obtain ⟨⟨va, la, ra⟩, ⟨vb, lb, rb⟩⟩ := h1.looks s (by omega)
  have F : ∀ (o : Option Nat) (v : Value), ((o = none ∧ v = .slice none 0 0) ∨ ∃ y, o = some y ∧ TX w1 v (tx y)) → Calls Tryd.prog 50 #[v, .int .i64 512] w1 (OutP w o) := fun o v hv =>
    (padD hv).mono fun e w' ⟨a, b⟩ => ⟨_, a, by rw [b]; exact heap_alloc_new _ _, HB1.out.size, by rw [b]; exact HB1.out.alloc HB1.out.size _⟩
  have FF := Lib.hid F
  clear h h1 hw1 hbw1 F
  unfold shwn
  cases hl : lastW s ws with
  | none =>
    rw [hl] at lb
    have lb' : (Instr.lookup 90 (.map (some hb)) (.int .u32 s) true).run Tryd.prog w1 = .ok (.tuple #[vb, .bool false]) w1 := lb
    have FA := Lib.hid (FF.out (su s) va ra)
    clear lb hl ra rb
    go_enter Tryd.func25, Tryd.ntmps25
    go_wp2_with fail
    refine A.out.mono ?_
    rintro e w' ⟨rfl, rfl⟩
    go_wp2_with fail
    refine Hs.out.mono ?_
    rintro e w' ⟨rfl, rfl⟩
    go_wp2_with fail
    rw [← HW1.out]
    refine O.out.mono ?_
    rintro e w' ⟨rfl, rfl⟩
    go_wp2_with fail
    refine FA.out.mono ?_
    rintro e w2 ⟨b, rfl, k1, k2, k3⟩
    have R := Lib.hid (And.intro k1 (And.intro k2 k3))
    clear k1 k2 k3
    go_wp2_with fail
    go_ret2
    exact ⟨b, rfl, R.out⟩
  | some y =>
    rw [hl] at lb rb
    have lb' : (Instr.lookup 90 (.map (some hb)) (.int .u32 s) true).run Tryd.prog w1 = .ok (.tuple #[vb, .bool true]) w1 := lb
    have FA := Lib.hid (FF.out (some y) vb rb)
    clear lb hl ra rb
    go_enter Tryd.func25, Tryd.ntmps25
    go_wp2_with fail
    refine A.out.mono ?_
    rintro e w' ⟨rfl, rfl⟩
    go_wp2_with fail
    refine Hs.out.mono ?_
    rintro e w' ⟨rfl, rfl⟩
    go_wp2_with fail
    rw [← HW1.out]
    refine O.out.mono ?_
    rintro e w' ⟨rfl, rfl⟩
    go_wp2_with fail
    refine FA.out.mono ?_
    rintro e w2 ⟨b, rfl, k1, k2, k3⟩
    have R := Lib.hid (And.intro k1 (And.intro k2 k3))
    clear k1 k2 k3
    go_wp2_with fail
    go_ret2
    exact ⟨b, rfl, R.out⟩
end
end Go.Proofs.YtjdamlmoegippaaDoor.dk
