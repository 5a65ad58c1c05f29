/-
  Contract of disk.Write. Condition: the disk lies in memory as said.
-/
import Derived.Test.YtjdamlmoegippaaDoorDkDD
namespace Go.Proofs.YtjdamlmoegippaaDoor.dk
open Go.RowKit
theorem info101 : (Tryd.prog.info? 100).map (fun i => (i.zero, i.size, i.bytes)) = some (some (.agg #[.int .u32 0, .slice none 0 0]), 2, 32) := by kernel_rfl
/-- The new row lies where the old one did, or in new memory. -/
def Anew (w : World) (v v' : Value) : Prop := ∀ k, v'.ownBlock = some k → v.ownBlock = some k ∨ w.heap.size ≤ k
theorem keyed23 : Maps.Keyed Tryd.prog 22 := Maps.int_keyed Tryd.underlying22
theorem wf32 (s : Nat) (h : s < 4294967296) : (Lit.int .u32 (s : Int)).wf = true := by
  simp [Lit.wf, IntKind.min, IntKind.max, IntKind.signed, IntKind.bits]
  omega
theorem key23 (s : Nat) (h : s < 4294967296) : keyOf Tryd.prog 22 (.int .u32 s) = some (.int .u32 s) := Maps.keyOf_int_mk Tryd.underlying22 (wf32 s h)
theorem zero32 (w : World) : (zeroValue 37).run Tryd.prog w = .ok (.slice none 0 0) w := by kernel_rfl
theorem lastW_app (s s' y : Nat) : ∀ ws : List (Nat × Nat), lastW s' (ws ++ [(s, y)]) = if s = s' then some y else lastW s' ws
  | [] => by simp [lastW]
  | (a, b) :: r => by
    show (match lastW s' (r ++ [(s, y)]) with | some y' => some y' | none => _) = _
    rw [lastW_app s s' y r]
    by_cases h : s = s'
    · rw [if_pos h, if_pos h]
    · rw [if_neg h, if_neg h]; rfl
theorem WS_app {w : World} {s y : Nat} {v : Value} (hs : s < 65536) (hv : TX w v (tx y)) (hy : y < 256) : ∀ {ws : List (Nat × Nat)} {vs : List Value}, WS w ws vs → WS w (ws ++ [(s, y)]) (vs ++ [.int .u32 s, v])
  | [], vs, h => by
    have h : vs = [] := h
    subst h
    exact ⟨v, [], rfl, hs, hv, hy, rfl⟩
  | (a, b) :: r, vs, h => by
    obtain ⟨u, vs', rfl, h1, h2, h3, h4⟩ := h
    exact ⟨u, vs' ++ [.int .u32 s, v], rfl, h1, h2, h3, WS_app hs hv hy h4⟩
theorem SM_upd {w : World} {f : Lit → Option Value} {su su' : Nat → Option Nat} (h : SM w f su) {s y : Nat} {v : Value} (hv : TX w v (tx y)) (hy : y < 256) (h1 : su' s = some y) (h2 : ∀ j, j ≠ s → su' j = su j) : SM w (updL f (.int .u32 s) (some v)) su' := fun j => by
  by_cases e : j = s
  · subst e
    exact .inr ⟨y, v, h1, by unfold updL; rw [if_pos (by simp [Lit.sameKey])], hv, hy⟩
  · have e1 : updL f (.int .u32 s) (some v) (.int .u32 j) = f (.int .u32 j) := by unfold updL; rw [if_neg (by simp [Lit.sameKey]; omega)]
    rw [h2 j e, e1]
    exact h j
theorem SM_del {w : World} {f : Lit → Option Value} {su su' : Nat → Option Nat} (h : SM w f su) {s : Nat} (h1 : su' s = none) (h2 : ∀ j, j ≠ s → su' j = su j) : SM w (updL f (.int .u32 s) none) su' := fun j => by
  by_cases e : j = s
  · subst e
    exact .inl ⟨h1, by unfold updL; rw [if_pos (by simp [Lit.sameKey])]⟩
  · have e1 : updL f (.int .u32 s) none (.int .u32 j) = f (.int .u32 j) := by unfold updL; rw [if_neg (by simp [Lit.sameKey]; omega)]
    rw [h2 j e, e1]
    exact h j
/-- The number of entries of a map of sectors: no more than there are sectors. -/
structure DkW (w w7 : World) (g N sb hb : Nat) (wv wv' : Value) (su : Nat → Option Nat) (ws : List (Nat × Nat)) (rg : List Value) (c p : Int) (d : Bool) (K : Nat) : Prop where
  dk : DK w7 g N sb hb wv' su ws rg c p d K
  m : Mods (Dt g sb hb wv) w w7
  an : Anew w wv wv'
theorem DK.write {w : World} {g N sb hb q : Nat} {wv : Value} {su : Nat → Option Nat} {ws : List (Nat × Nat)} {rg : List Value} {c p : Int} {d : Bool} {K : Nat} (h : DK w g N sb hb wv su ws rg c p d K) {s y : Nat} {v : Value} (hs : s < 65536) (hv : TX w v (tx y)) (hy : y < 256) (hK : K < 1000000)
    (hq : w.heap[q]? = some (.cells #[.int .u32 s, v] 100 (0, 0))) (hqn : ∀ k, wv.ownBlock = some k → k ≠ q) :
    ∃ z k w5 w7, (Builtin.append_ #[91, 91] 91 #[wv, .slice (some ⟨w.heap.size, 0, none⟩) 1 1]).run Tryd.prog (w.alloc (.cells #[.int .u32 s, v] 100)) = .ok (.slice z (ws.length + 1) k) w5 ∧
      w5.cell? ⟨g, 3, none⟩ = some wv ∧ w5.frozen? ⟨g, 3, none⟩ = false ∧ (w5.setCell ⟨g, 3, none⟩ (.slice z (ws.length + 1) k)).cell? ⟨g, 2, none⟩ = some (.map (some hb)) ∧ (w5.setCell ⟨g, 3, none⟩ (.slice z (ws.length + 1) k)).cell? ⟨q, 1, none⟩ = some v ∧
      (Instr.mapUpdate 90 (.map (some hb)) (.int .u32 s) v).run Tryd.prog (w5.setCell ⟨g, 3, none⟩ (.slice z (ws.length + 1) k)).drew = .ok () w7 ∧
      DkW w w7 g N sb hb wv (.slice z (ws.length + 1) k) su (ws ++ [(s, y)]) rg c p d (K + 1) := by
  obtain ⟨n1, f1, m1, b1, s1⟩ := h.sure
  obtain ⟨n2, f2, m2, b2, s2⟩ := h.shown
  obtain ⟨vs, r, qs⟩ := h.waits
  obtain ⟨k1, k2, k3, k4⟩ := h.kinds
  obtain ⟨i, hi, hz0, hz1, hz2⟩ := info_parts info101
  have hnew := heap_alloc_new w (.cells #[.int .u32 s, v] 100)
  have hone : ∀ u ∈ ([.int .u32 s, v] : List Value), u.oneCell' = true := by
    obtain ⟨b, rfl, _⟩ := hv
    simp [Value.oneCell']
  have hr0 : Rw (w.alloc (.cells #[.int .u32 s, v] 100)) 100 2 wv ws.length vs := Rw.mods (S := fun _ => False) r (Mods.alloc _ _) (fun _ _ => id)
  have hwl : ws.length ≤ 1000000 := by have := h.wl; omega
  obtain ⟨v', w5, hrun, r1, r2, r3⟩ := hr0.push Tryd.underlying91 hi hz0 hz1 hz2 rfl (by decide) ⟨w.heap.size, 0, none⟩ 1 1 [.int .u32 s, v] rfl
    (fun j u hj => by rw [addr_add, cell_of_row _ _ _ _ _ _ hnew]; rcases j with _ | _ | j <;> simp at hj ⊢ <;> exact hj) hone (by unfold maxLen; omega) (by omega) (by omega)
  obtain ⟨z, k, rfl, _, _⟩ := r1.form
  have ha : Anew w wv (.slice z (ws.length + 1) k) := fun j hj => by
    rcases r3 with r3 | ⟨k', h1, h2⟩
    · rw [r3] at hj; exact .inl hj
    · rw [h1] at hj
      obtain rfl := Option.some.inj hj
      simp at h2
      exact .inr (by omega)
  have hm5 : Mods (fun j => wv.ownBlock = some j) w w5 := (Mods.alloc w _).trans r2 (fun b hb => .inl hb)
  have hg5 : w5.heap[g]? = some (.cells (dcells N sb hb wv rg c p d) 94 (0, 0)) := (hm5.block g h.lt (fun e => (k4 g e).1 rfl)).trans h.row
  have hq5 : w5.heap[q]? = some (.cells #[.int .u32 s, v] 100 (0, 0)) := (hm5.block q (Array.getElem?_eq_some_iff.1 hq).1 (fun e => hqn q e rfl)).trans hq
  have hgq : g ≠ q := fun e => by
    have h1 := h.row
    rw [e, hq] at h1
    injection h1 with h1
    injection h1 with _ h1
    cases h1
  have hm6 : Mods (fun j => j = g) w5 (w5.setCell ⟨g, 3, none⟩ (.slice z (ws.length + 1) k)) := Mods.set (S := fun j => j = g) w5 ⟨g, 3, none⟩ _ rfl
  have hg6 : (w5.setCell ⟨g, 3, none⟩ (.slice z (ws.length + 1) k)).heap[g]? = some (.cells (dcells N sb hb (.slice z (ws.length + 1) k) rg c p d) 94 (0, 0)) := by rw [row_set hg5, dset_3]
  have hq6 : (w5.setCell ⟨g, 3, none⟩ (.slice z (ws.length + 1) k)).heap[q]? = some (.cells #[.int .u32 s, v] 100 (0, 0)) := (hm6.block q (Array.getElem?_eq_some_iff.1 hq5).1 (fun e => hgq e.symm)).trans hq5
  have hbl : hb < w.heap.size := m2.lt
  have hW : Mods (fun j => wv.ownBlock = some j ∨ j = g) w (w5.setCell ⟨g, 3, none⟩ (.slice z (ws.length + 1) k)) := (hm5.mono (T := fun j => wv.ownBlock = some j ∨ j = g) (fun b hb => .inl (.inl hb))).trans hm6 (fun b hb => .inl (.inr hb))
  have kW : ∀ b cs, w.heap[b]? = some (.cells cs 5 (0, 0)) → ¬ (wv.ownBlock = some b ∨ b = g) := fun b cs hb' hd => by
    rcases hd with hd | hd
    · exact k1 b cs hb' (.inr (.inr (.inr hd)))
    · exact k1 b cs hb' (.inl hd)
  have m26 := m2.mods hW (fun e => by rcases e with e | e; exact (k4 hb e).2.2 rfl; exact k3 e.symm)
  have m26' : MapV Tryd.prog 22 (w5.setCell ⟨g, 3, none⟩ (.slice z (ws.length + 1) k)).drew hb n2 f2 := m26.same rfl
  obtain ⟨w7, hst, m27, hm7, hz7⟩ := m26'.store keyed23 Tryd.underlying90 (by unfold maxLen; omega) (v := v) (key23 s (by omega))
  have hm7' : Mods (fun j => j = hb) (w5.setCell ⟨g, 3, none⟩ (.slice z (ws.length + 1) k)) w7 := ⟨hm7.os, hm7.tape, hm7.output, hm7.size, hm7.block⟩
  have hall : Mods (fun j => (wv.ownBlock = some j ∨ j = g) ∨ j = hb) w w7 := (hW.mono (T := fun j => (wv.ownBlock = some j ∨ j = g) ∨ j = hb) (fun b hb => .inl (.inl hb))).trans hm7' (fun b hb => .inl (.inr hb))
  have kA : ∀ b cs, w.heap[b]? = some (.cells cs 5 (0, 0)) → ¬ ((wv.ownBlock = some b ∨ b = g) ∨ b = hb) := fun b cs hb' hd => by
    rcases hd with hd | hd
    · exact kW b cs hb' hd
    · exact k1 b cs hb' (.inr (.inr (.inl hd)))
  have hv7 := hv.mods hall kA
  refine ⟨z, k, w5, w7, hrun, by rw [cell_of_row _ _ _ _ _ _ hg5]; rfl, by simp [World.frozen?, hg5], by rw [cell_of_row _ _ _ _ _ _ hg6]; rfl, by rw [cell_of_row _ _ _ _ _ _ hq6]; rfl, hst, ⟨⟨h.n1, h.n2, ?_, h.len, ?_, ?_, ?_, h.ne, by omega⟩, ?_, ha⟩⟩
  · exact (hm7'.block g (Array.getElem?_eq_some_iff.1 hg6).1 (fun e => k3 e)).trans hg6
  · exact ⟨n1, f1, m1.mods hall (fun e => by rcases e with (e | e) | e; exact (k4 sb e).2.1 rfl; exact k2 e.symm; exact h.ne e), by simp; omega, s1.mods hall kA⟩
  · refine ⟨_, _, m27, ?_, SM_upd (s2.mods hall kA) hv7 hy ?_ ?_⟩
    · split <;> omega
    · rw [lastW_app, if_pos rfl]
    · intro j hj; rw [lastW_app, if_neg (fun e => hj e.symm)]
  · refine ⟨vs ++ [.int .u32 s, v], ?_, WS_app hs hv7 hy (WS.mods hall kA qs)⟩
    have e1 : (ws ++ [(s, y)]).length = ws.length + 1 := by simp
    rw [e1]
    have hown : ∀ j, (Value.slice z (ws.length + 1) k).ownBlock = some j → j ≠ g ∧ j ≠ hb := fun j hj => by
      rcases ha j hj with h1 | h1
      · exact ⟨(k4 j h1).1, (k4 j h1).2.2⟩
      · have := h.lt; omega
    exact (r1.mods hm6 (fun j hj => (hown j hj).1)).mods hm7' (fun j hj => (hown j hj).2)
  · exact hall.mono (fun b hb' => .inl (by rcases hb' with (e | e) | e; exact .inr (.inr (.inr e)); exact .inl e; exact .inr (.inr (.inl e))))
end Go.Proofs.YtjdamlmoegippaaDoor.dk
namespace Go.Proofs.YtjdamlmoegippaaDoor.dk
open Go.RowKit
theorem step_app_run {P : Program} {ops : Array Oper} {o : Oper} {a : Act} {w : World} {K : Act → World → Prop} {Q : Exit → Act → World → Prop} {E : Prop} (hgd : o.guard = none) (d s : Operand) (T : TypeId)
    (ho : o.op = .call { callee := .builtin .append, args := #[d, s], argTypes := #[T, T] }) (hty : o.type = T) {x y v : Value} {w' : World} (hd : a.eval d = x) (hs : a.eval s = y) (hr : (Builtin.append_ #[T, T] T #[x, y]).run P w = .ok v w')
    (hK : K (a.put o.dst v) w') : if Region.wanted o (yielded ops a.tmps) = true then Oper.wp P o a w K Q else E := by
  have hw : Region.wanted o (yielded ops a.tmps) = true := by simp [Region.wanted, hgd]
  rw [if_pos hw]
  unfold Oper.wp
  simp only [execOp, ho, hty, resolve, invoke, builtin, Sem.run_bind, Sem.run_pure, Result.andThen_ok, List.map_toArray, List.map_cons, List.map_nil, hd, hs, hr]
  exact hK
/-- The plan behind a call. -/
def pl (p : Int) : Int := if p = -1 then -1 else p - 1
section
variable {w w' : World} {g N sb hb : Nat} {wv : Value} {su : Nat → Option Nat} {ws : List (Nat × Nat)} {rg : List Value} {c p : Int} {d : Bool} {K : Nat}
theorem mayD_ok (h : DK w g N sb hb wv su ws rg c p d K) (hc : 0 ≤ c) (hc2 : c ≤ 1000000) (hp : p = -1 ∨ 1 ≤ p) (hp2 : p ≤ 9223372036854775807) : Calls Tryd.prog 45 #[.pointer (some ⟨g, 0, none⟩)] w (MayP w g N sb hb wv su ws rg (c + 1) (pl p) d K true) := by
  unfold pl
  rcases hp with rfl | hp
  · rw [if_pos rfl]; exact mayD_free h hc hc2
  · rw [if_neg (by omega)]; exact mayD_plan h hc hc2 hp hp2
/-- A disk behind a call. -/
def DkP (w : World) (g N sb hb : Nat) (wv : Value) (su : Nat → Option Nat) (ws : List (Nat × Nat)) (rg : List Value) (c p : Int) (d : Bool) (K : Nat) (r : Value) (e : Ending) (w' : World) : Prop :=
  ∃ wv', e = .returned r ∧ DkW w w' g N sb hb wv wv' su ws rg c p d K
/-- The error of a call that writes. -/
def wE (d : Bool) (s N n : Nat) : Int := orE [if d then 30 else 0, if s < N then 0 else 31, if n = 512 then 0 else 3]
set_option maxRecDepth 100000 in
set_option maxHeartbeats 1000000 in
theorem writeD_err (h : DK w g N sb hb wv su ws rg c p d K) (s : Nat) (x : Option Addr) (n k : Nat) (hn : n ≤ 9223372036854775807) (he : wE d s N n ≠ 0) :
    Calls Tryd.prog 22 #[.pointer (some ⟨g, 0, none⟩), .int .u32 s, .slice x n k] w fun e w' => e = .returned (.int .i64 (wE d s N n)) ∧ Below w.heap.size w w' := by
  have A := Lib.hid (awakeD h)
  have Hs := Lib.hid (hasD h s)
  have F := Lib.hid (fitsD x n k hn w)
  clear h
  unfold wE at he ⊢
  generalize (if d then (30 : Int) else 0) = e1 at *
  generalize (if s < N then (0 : Int) else 31) = e2 at *
  generalize (if n = 512 then (0 : Int) else 3) = e3 at *
  have O := Lib.hid (orD w.heap.size [e1, e2, e3] (by simp) (w.alloc (.cells #[.int .i64 e1, .int .i64 e2, .int .i64 e3] 34)) (fun j z hj => by
    rw [cell_of_row _ _ _ _ _ _ (heap_alloc_new w _)]; rcases j with _ | _ | _ | j <;> simp at hj <;> subst hj <;> rfl))
  generalize orE [e1, e2, e3] = E at *
  have hne : (E == 0) = false := by simp [he]
  have hne2 : (E != 0) = true := by simp [he]
  go_enter Tryd.func22, Tryd.ntmps22
  go_wp2_with fail
  refine A.out.mono ?_
  rintro e w' ⟨rfl, rfl⟩
  go_wp2_with fail
  refine Hs.out.mono ?_
  rintro e w' ⟨rfl, rfl⟩
  go_wp2_with fail
  refine F.out.mono ?_
  rintro e w' ⟨rfl, rfl⟩
  go_wp2_with fail
  refine O.out.mono ?_
  rintro e w' ⟨rfl, rfl⟩
  go_wp2_with fail
  go_ret
  exact ⟨rfl, (Below.refl _ _).alloc (Nat.le_refl _) _⟩
set_option maxRecDepth 100000 in
set_option maxHeartbeats 2000000 in
theorem writeD_ok (h : DK w g N sb hb wv su ws rg c p false K) (s y : Nat) (v : Value) (hs : s < N) (hv : TX w v (tx y)) (hy : y < 256) (hc : 0 ≤ c) (hc2 : c ≤ 1000000) (hp : p = -1 ∨ 1 ≤ p) (hp2 : p ≤ 9223372036854775807) (hK : K < 1000000) :
    Calls Tryd.prog 22 #[.pointer (some ⟨g, 0, none⟩), .int .u32 s, v] w (DkP w g N sb hb wv su (ws ++ [(s, y)]) rg (c + 1) (pl p) false (K + 1) (.int .i64 0)) := by
  have n2 := h.n2
  have A := Lib.hid (awakeD h)
  have Hs := Lib.hid (hasD h s)
  rw [if_pos hs] at Hs
  obtain ⟨b, rfl, hb0⟩ := hv
  rw [tx_len]
  have F := Lib.hid (fitsD (some ⟨b, 0, none⟩) 512 512 (by omega) w)
  have O := Lib.hid (orD w.heap.size [0, 0, 0] (by simp) (w.alloc (.cells #[.int .i64 0, .int .i64 0, .int .i64 0] 34)) (fun j z hj => by
    rw [cell_of_row _ _ _ _ _ _ (heap_alloc_new w _)]; rcases j with _ | _ | _ | j <;> simp at hj <;> subst hj <;> rfl))
  obtain ⟨w1, hw1⟩ : ∃ w1, w1 = w.alloc (.cells #[.int .i64 0, .int .i64 0, .int .i64 0] 34) := ⟨_, rfl⟩
  have hbw1 : Below w.heap.size w w1 := by rw [hw1]; exact (Below.refl _ _).alloc (Nat.le_refl _) _
  have h1 := h.below hbw1
  have T1 : Hid (TX w1 (.slice (some ⟨b, 0, none⟩) 512 512) (tx y)) := by
    have : TX w (.slice (some ⟨b, 0, none⟩) 512 512) (tx y) := ⟨b, by rw [tx_len], hb0⟩
    exact this.below hbw1
  have M := Lib.hid (mayD_ok h1 hc hc2 hp hp2)
  have HB1 := Lib.hid hbw1
  have D1 := Lib.hid h1
  rw [← hw1] at O
  have HW1 := Lib.hid hw1
  have PC : Hid (0 ≤ c ∧ c ≤ 1000000 ∧ K < 1000000 ∧ y < 256 ∧ s < 65536) := ⟨hc, hc2, hK, hy, by omega⟩
  clear h hb0 hw1 hbw1 h1 hc hc2 hp hp2 hK hy
  go_enter Tryd.func22, Tryd.ntmps22
  go_wp2_with fail
  refine A.out.mono ?_
  rintro e w' ⟨rfl, rfl⟩
  go_wp2_with fail
  refine Hs.out.mono ?_
  rintro e w' ⟨rfl, rfl⟩
  go_wp2_with fail
  refine F.out.mono ?_
  rintro e w' ⟨rfl, rfl⟩
  go_wp2_with fail
  rw [← HW1.out]
  refine O.out.mono ?_
  rintro e w' ⟨rfl, rfl⟩
  go_wp2_with fail
  refine M.out.mono ?_
  rintro e w2 ⟨rfl, d2, m2⟩
  have D2 := Lib.hid d2
  have M2 := Lib.hid m2
  have kb := D1.out.kinds
  have T2 := Lib.hid (T1.out.mods m2 (fun b' cs h' e => kb.1 b' cs h' (.inl e)))
  clear d2 m2 kb
  go_wp2_with fail
  refine (copiedD T2.out).mono ?_
  rintro e w3 ⟨rfl, hw3⟩
  have HW3 := Lib.hid hw3
  clear hw3
  go_wp2_with fail
  obtain ⟨V, hV⟩ : ∃ V, V = Value.slice (some ⟨w2.heap.size, 0, none⟩) 512 512 := ⟨_, rfl⟩
  obtain ⟨q, hq⟩ : ∃ q, q = w3.heap.size := ⟨_, rfl⟩
  obtain ⟨w4, hw4⟩ : ∃ w4, w4 = w3.alloc (.cells #[.int .u32 s, V] 100) := ⟨_, rfl⟩
  have hw3 := HW3.out
  have b23 : Below w2.heap.size w2 w3 := by rw [hw3]; exact (Below.refl _ _).alloc (Nat.le_refl _) _
  have b34 : Below w3.heap.size w3 w4 := by rw [hw4]; exact (Below.refl _ _).alloc (Nat.le_refl _) _
  have d4 := (D2.out.below b23).below b34
  have t3 : TX w3 V (tx y) := ⟨w2.heap.size, by rw [hV, tx_len], by rw [hw3]; exact heap_alloc_new _ _⟩
  have t4 := t3.below b34
  have q4 : w4.heap[q]? = some (.cells #[.int .u32 s, V] 100 (0, 0)) := by rw [hw4, hq]; exact heap_alloc_new _ _
  have hqn : ∀ k, wv.ownBlock = some k → k ≠ q := fun k hk => by
    obtain ⟨vs, r, _⟩ := D2.out.waits
    have := (r.lt k hk).1
    have h1 := b23.size
    omega
  have d4' : DK w4.drew g N sb hb wv su ws rg (c + 1) (pl p) false K := d4.heap rfl
  have t4' : TX w4.drew V (tx y) := t4.heap rfl
  obtain ⟨z, k, w5, w7, r1, r2, r3, r4, r5, r6, r7⟩ := d4'.write PC.out.2.2.2.2 t4' PC.out.2.2.2.1 PC.out.2.2.1 q4 hqn
  have e3 := d4.c3
  have e3' : (w4.alloc (.cells #[.int .u32 s, V] 100)).cell? ⟨g, 3, none⟩ = some wv := (d4.below ((Below.refl _ _).alloc (Nat.le_refl _) _)).c3
  have eq0 : w4.cell? ⟨q, 0, none⟩ = some (.int .u32 s) := by rw [cell_of_row _ _ _ _ _ _ q4]; rfl
  have eq1 : w4.cell? ⟨q, 1, none⟩ = some V := by rw [cell_of_row _ _ _ _ _ _ q4]; rfl
  obtain ⟨w6, hw6⟩ : ∃ w6, w6 = w5.setCell ⟨g, 3, none⟩ (.slice z (ws.length + 1) k) := ⟨_, rfl⟩
  rw [← hw6] at r4 r5 r6
  have HW6 := Lib.hid hw6
  clear hw6
  have R7 := Lib.hid r7
  have R1 := Lib.hid r1
  have R6 := Lib.hid r6
  obtain ⟨vs, rr, _⟩ := d4.waits
  have B14 : Hid (w2.heap.size ≤ w4.heap.size ∧ Below w2.heap.size w2 w4) := ⟨(b23.trans (b34.mono b23.size)).size, b23.trans (b34.mono b23.size)⟩
  obtain ⟨vx, vc, rfl, _, _⟩ := rr.form
  rw [← hV, ← hq, ← hw4]
  have HV := Lib.hid hV
  obtain ⟨vb, rfl⟩ : ∃ vb, V = .slice (some ⟨vb, 0, none⟩) 512 512 := ⟨_, hV⟩
  clear hw3 b23 b34 d4 t3 t4 q4 hqn d4' t4' r7 r1 r6 rr hV hq hw4
  go_region_law (refine step_app_run rfl (.tmp 32) (.tmp 34) 91 rfl rfl rfl rfl R1.out ?_)
  all_goals
    go_wp2_with fail
    rw [← HW6.out]
    refine wp_region_still_tail 7 (by kernel_rfl) (by kernel_rfl) ?_
    simp only [List.take_succ_cons, List.take_zero, List.drop_succ_cons, List.drop_zero]
    iterate 7 still_step
    refine wpStill_nil ?_
    change wpList _ _ _ _ _ w6.drew
    have r6 := R6.out
    go_wp2_with fail
    go_ret
    refine ⟨_, rfl, R7.out.dk, ?_, ?_⟩
    · have hm1 : Mods (Dt g sb hb (.slice vx ws.length vc)) w w2 := ((Mods.of_below HB1.out).trans M2.out (fun b hb => .inl hb)).mono (fun b hb' => .inl (.inl hb'))
      have hm2 : Mods (Dt g sb hb (.slice vx ws.length vc)) w w4 := hm1.trans (Mods.of_below (S := Dt g sb hb (.slice vx ws.length vc)) B14.out.2) (fun b hb => .inl hb)
      exact hm2.trans (T := Dt g sb hb (.slice vx ws.length vc)) ⟨R7.out.m.os, R7.out.m.tape, R7.out.m.output, R7.out.m.size, R7.out.m.block⟩ (fun b hb => .inl hb)
    · intro j hj
      rcases R7.out.an j hj with h1 | h1
      · exact .inl h1
      · have h2 := B14.out.1
        have h3 := M2.out.size
        have h4 := HB1.out.size
        have h5 : w4.heap.size ≤ j := h1
        exact .inr (by omega)
end
end Go.Proofs.YtjdamlmoegippaaDoor.dk
