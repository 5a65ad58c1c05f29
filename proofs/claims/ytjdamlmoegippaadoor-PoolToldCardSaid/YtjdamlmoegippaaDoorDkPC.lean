/-
  A new disk, a write, as texts DD and DE, for texts in blocks of a kind. Condition: the disk lies in memory as said.
-/
import Derived.Test.YtjdamlmoegippaaDoorDkPA
namespace Go.Proofs.YtjdamlmoegippaaDoor.dk.pv
open Go.RowKit
variable {P : Nat → Prop}
section
variable {w w' : World} {g N sb hb : Nat} {wv : Value} {su : Nat → Option Nat} {ws : List (Nat × Nat)} {rg : List Value} {c p : Int} {d : Bool} {K : Nat}
theorem sizeD (h : DK P w g N sb hb wv su ws rg c p d K) : Calls Tryd.prog 26 #[.pointer (some ⟨g, 0, none⟩)] w fun e w' => e = .returned (.int .i64 N) ∧ w = w' := by
  have c0 := h.c0
  clear h
  go_enter Tryd.func26, Tryd.ntmps26
  go_wp2
  go_ret
  exact ⟨rfl, rfl⟩
theorem awakeD (h : DK P w g N sb hb wv su ws rg c p d K) : Calls Tryd.prog 44 #[.pointer (some ⟨g, 0, none⟩)] w fun e w' => e = .returned (.int .i64 (if d then 30 else 0)) ∧ w = w' := by
  have H := Lib.hid h
  have c70 := h.c70
  have n1 := h.n1
  have hz : ((N : Int) == 0) = false := by simp; omega
  clear h
  cases d
  · go_enter Tryd.func44, Tryd.ntmps44
    go_wp2_with (go_at_call 26; refine (sizeD H.out).mono ?_; rintro e w' ⟨rfl, rfl⟩)
    go_ret
    exact ⟨rfl, rfl⟩
  · go_enter Tryd.func44, Tryd.ntmps44
    go_wp2_with (go_at_call 26; refine (sizeD H.out).mono ?_; rintro e w' ⟨rfl, rfl⟩)
    go_ret
    exact ⟨rfl, rfl⟩
theorem hasD (h : DK P w g N sb hb wv su ws rg c p d K) (s : Nat) : Calls Tryd.prog 37 #[.pointer (some ⟨g, 0, none⟩), .int .u32 s] w fun e w' => e = .returned (.int .i64 (if s < N then 0 else 31)) ∧ w = w' := by
  have H := Lib.hid h
  have c0 := h.c0
  have n1 := h.n1
  have n2 := h.n2
  have hz : ((N : Int) == 0) = false := by simp; omega
  clear h
  by_cases hlt : s < N
  · rw [if_pos hlt]
    have h2 : ¬ (N : Int) ≤ (s : Int) := by omega
    go_enter Tryd.func37, Tryd.ntmps37
    go_wp2_with (go_at_call 26; refine (sizeD H.out).mono ?_; rintro e w' ⟨rfl, rfl⟩)
    go_ret
    exact ⟨rfl, rfl⟩
  · rw [if_neg hlt]
    have h2 : (N : Int) ≤ (s : Int) := by omega
    go_enter Tryd.func37, Tryd.ntmps37
    go_wp2_with (go_at_call 26; refine (sizeD H.out).mono ?_; rintro e w' ⟨rfl, rfl⟩)
    go_ret
    exact ⟨rfl, rfl⟩
/-- A disk of which the plan was asked. -/
def MayP (P : Nat → Prop) (w : World) (g N sb hb : Nat) (wv : Value) (su : Nat → Option Nat) (ws : List (Nat × Nat)) (rg : List Value) (c p : Int) (d : Bool) (K : Nat) (ok : Bool) (e : Ending) (w' : World) : Prop :=
  e = .returned (.bool ok) ∧ DK P w' g N sb hb wv su ws rg c p d K ∧ Mods (fun k => k = g) w w'
set_option maxRecDepth 100000 in
theorem mayD_free (h : DK P w g N sb hb wv su ws rg c (-1) d K) (hc : 0 ≤ c) (hc2 : c ≤ 1000000) : Calls Tryd.prog 45 #[.pointer (some ⟨g, 0, none⟩)] w (MayP P w g N sb hb wv su ws rg (c + 1) (-1) d K true) := by
  have c69 := h.c69
  have c68 := h.c68
  have f68 := h.fz 68
  have hm : Mods (fun k => k = g) w (w.setCell ⟨g, 68, none⟩ (.int .i64 (c + 1))) := Mods.set (S := fun k => k = g) w ⟨g, 68, none⟩ _ rfl
  have hD := h.reset (by rw [row_set h.row, dset_68 h.len]) hm
  have HD := Lib.hid hD
  have HM := Lib.hid hm
  clear h hm hD
  go_enter Tryd.func45, Tryd.ntmps45
  go_wp2_with fail
  go_ret
  exact ⟨rfl, HD.out, HM.out⟩
set_option maxRecDepth 100000 in
theorem mayD_plan (h : DK P w g N sb hb wv su ws rg c p d K) (hc : 0 ≤ c) (hc2 : c ≤ 1000000) (hp : 1 ≤ p) (hp2 : p ≤ 9223372036854775807) : Calls Tryd.prog 45 #[.pointer (some ⟨g, 0, none⟩)] w (MayP P w g N sb hb wv su ws rg (c + 1) (p - 1) d K true) := by
  have c69 := h.c69
  have c68 := h.c68
  have f68 := h.fz 68
  have f69 := h.fz 69
  have hm1 : Mods (fun k => k = g) w (w.setCell ⟨g, 69, none⟩ (.int .i64 (p - 1))) := Mods.set (S := fun k => k = g) w ⟨g, 69, none⟩ _ rfl
  have hD1 := h.reset (by rw [row_set h.row, dset_69 h.len]) hm1
  have hm2 : Mods (fun k => k = g) (w.setCell ⟨g, 69, none⟩ (.int .i64 (p - 1))) ((w.setCell ⟨g, 69, none⟩ (.int .i64 (p - 1))).setCell ⟨g, 68, none⟩ (.int .i64 (c + 1))) := Mods.set (S := fun k => k = g) _ ⟨g, 68, none⟩ _ rfl
  have hD := hD1.reset (by rw [row_set hD1.row, dset_68 hD1.len]) hm2
  have HD := Lib.hid hD
  have HM := Lib.hid (hm1.trans hm2 (fun b hb => .inl hb))
  have h0 : (p == 0) = false := by simp; omega
  have h1 : (p == -1) = false := by simp; omega
  have h2 : (p != -1) = true := by simp; omega
  have e68 := hD1.c68
  have g68 := hD1.fz 68
  clear h hm1 hm2 hD hD1
  go_enter Tryd.func45, Tryd.ntmps45
  go_wp2_with fail
  go_ret
  exact ⟨rfl, HD.out, HM.out⟩
end
end Go.Proofs.YtjdamlmoegippaaDoor.dk.pv
namespace Go.Proofs.YtjdamlmoegippaaDoor.dk.pv
open Go.RowKit
variable {P : Nat → Prop}
/-- A new disk. -/
def NewDP (P : Nat → Prop) (w : World) (N : Nat) (e : Ending) (w' : World) : Prop :=
  ∃ g sb hb, e = .returned (.tuple #[.pointer (some ⟨g, 0, none⟩), .int .i64 0]) ∧ DK P w' g N sb hb (.slice none 0 0) (fun _ => none) [] (List.replicate 64 (.int .u8 0)) 0 (-1) false 0 ∧ w.heap.size ≤ g ∧ w.heap.size ≤ sb ∧ w.heap.size ≤ hb ∧ Below w.heap.size w w'
theorem newD_rows (w : World) (N : Nat) (h1 : 1 ≤ N) (h2 : N ≤ 65536) :
    DK P (((w.alloc (.map #[] 0)).alloc (.map #[] 0)).alloc (.cells (dcells N w.heap.size (w.heap.size + 1) (.slice none 0 0) (List.replicate 64 (.int .u8 0)) 0 (-1) false) 94)) (w.heap.size + 2) N w.heap.size (w.heap.size + 1) (.slice none 0 0) (fun _ => none) [] (List.replicate 64 (.int .u8 0)) 0 (-1) false 0 := by
  obtain ⟨t1, t2, t3⟩ := three_allocs w (.map #[] 0) (.map #[] 0) (.cells (dcells N w.heap.size (w.heap.size + 1) (.slice none 0 0) (List.replicate 64 (.int .u8 0)) 0 (-1) false) 94)
  refine ⟨h1, h2, t3, by simp, ⟨0, fun _ => none, (MapV.made w Tryd.prog 22).copy (t1.trans (heap_alloc_new w _).symm), by simp, fun s => .inl ⟨rfl, rfl⟩⟩, ⟨0, fun _ => none, (MapV.made w Tryd.prog 22).copy (t2.trans (heap_alloc_new w _).symm), by omega, fun s => .inl ⟨rfl, rfl⟩⟩, ⟨[], ⟨rfl, by simp, .inl ⟨rfl, rfl⟩⟩, rfl⟩, by omega, by simp⟩
set_option maxRecDepth 100000 in
set_option maxHeartbeats 400000 in
theorem newD (N : Nat) (h1 : 1 ≤ N) (h2 : N ≤ 65536) (w : World) : Calls Tryd.prog 29 #[.int .i64 N] w (NewDP P w N) := by
  have hD := newD_rows (P := P) w N h1 h2
  have HD := Lib.hid hD
  have hmm := @run_makeMap Tryd.prog
  clear hD
  go_enter Tryd.func29, Tryd.ntmps29
  go_wp2_with fail
  go_ret2
  exact ⟨_, _, _, rfl, HD.out, by omega, by omega, by omega, (((Below.refl _ _).alloc (Nat.le_refl _) _).alloc (by simp) _).alloc (by simp; omega) _⟩
theorem WS_app {w : World} {s y : Nat} {v : Value} (hs : s < 65536) (hv : TX P w v (tx y)) (hy : YB y) : ∀ {ws : List (Nat × Nat)} {vs : List Value}, WS P w ws vs → WS P w (ws ++ [(s, y)]) (vs ++ [.int .u32 s, v])
  | [], vs, h => by
    have h : vs = [] := h
    subst h
    exact ⟨v, [], rfl, hs, hv, hy, rfl⟩
  | (a, b) :: r, vs, h => by
    obtain ⟨u, vs', rfl, h1, h2, h3, h4⟩ := h
    exact ⟨u, vs' ++ [.int .u32 s, v], rfl, h1, h2, h3, WS_app hs hv hy h4⟩
theorem SM_upd {w : World} {f : Lit → Option Value} {su su' : Nat → Option Nat} (h : SM P w f su) {s y : Nat} {v : Value} (hv : TX P w v (tx y)) (hy : YB y) (h1 : su' s = some y) (h2 : ∀ j, j ≠ s → su' j = su j) : SM P w (updL f (.int .u32 s) (some v)) su' := fun j => by
  by_cases e : j = s
  · subst e
    exact .inr ⟨y, v, h1, by unfold updL; rw [if_pos (by simp [Lit.sameKey])], hv, hy⟩
  · have e1 : updL f (.int .u32 s) (some v) (.int .u32 j) = f (.int .u32 j) := by unfold updL; rw [if_neg (by simp [Lit.sameKey]; omega)]
    rw [h2 j e, e1]
    exact h j
theorem SM_del {w : World} {f : Lit → Option Value} {su su' : Nat → Option Nat} (h : SM P w f su) {s : Nat} (h1 : su' s = none) (h2 : ∀ j, j ≠ s → su' j = su j) : SM P w (updL f (.int .u32 s) none) su' := fun j => by
  by_cases e : j = s
  · subst e
    exact .inl ⟨h1, by unfold updL; rw [if_pos (by simp [Lit.sameKey])]⟩
  · have e1 : updL f (.int .u32 s) none (.int .u32 j) = f (.int .u32 j) := by unfold updL; rw [if_neg (by simp [Lit.sameKey]; omega)]
    rw [h2 j e, e1]
    exact h j
/-- The number of entries of a map of sectors: no more than there are sectors. -/
structure DkW (P : Nat → Prop) (w w7 : World) (g N sb hb : Nat) (wv wv' : Value) (su : Nat → Option Nat) (ws : List (Nat × Nat)) (rg : List Value) (c p : Int) (d : Bool) (K : Nat) : Prop where
  dk : DK P w7 g N sb hb wv' su ws rg c p d K
  m : Mods (Dt g sb hb wv) w w7
  an : Anew w wv wv'
theorem DK.write {w : World} {g N sb hb q : Nat} {wv : Value} {su : Nat → Option Nat} {ws : List (Nat × Nat)} {rg : List Value} {c p : Int} {d : Bool} {K : Nat} (h : DK P w g N sb hb wv su ws rg c p d K) {s y : Nat} {v : Value} (hs : s < 65536) (hv : TX P w v (tx y)) (hy : YB y) (hK : K < 1000000)
    (hq : w.heap[q]? = some (.cells #[.int .u32 s, v] 100 (0, 0))) (hqn : ∀ k, wv.ownBlock = some k → k ≠ q) :
    ∃ z k w5 w7, (Builtin.append_ #[91, 91] 91 #[wv, .slice (some ⟨w.heap.size, 0, none⟩) 1 1]).run Tryd.prog (w.alloc (.cells #[.int .u32 s, v] 100)) = .ok (.slice z (ws.length + 1) k) w5 ∧
      w5.cell? ⟨g, 3, none⟩ = some wv ∧ w5.frozen? ⟨g, 3, none⟩ = false ∧ (w5.setCell ⟨g, 3, none⟩ (.slice z (ws.length + 1) k)).cell? ⟨g, 2, none⟩ = some (.map (some hb)) ∧ (w5.setCell ⟨g, 3, none⟩ (.slice z (ws.length + 1) k)).cell? ⟨q, 1, none⟩ = some v ∧
      (Instr.mapUpdate 90 (.map (some hb)) (.int .u32 s) v).run Tryd.prog (w5.setCell ⟨g, 3, none⟩ (.slice z (ws.length + 1) k)).drew = .ok () w7 ∧
      DkW P w w7 g N sb hb wv (.slice z (ws.length + 1) k) su (ws ++ [(s, y)]) rg c p d (K + 1) := by
  obtain ⟨n1, f1, m1, b1, s1⟩ := h.sure
  obtain ⟨n2, f2, m2, b2, s2⟩ := h.shown
  obtain ⟨vs, r, qs⟩ := h.waits
  obtain ⟨k1, k2, k3, k4⟩ := h.kinds
  obtain ⟨i, hi, hz0, hz1, hz2⟩ := info_parts info101
  have hnew := heap_alloc_new w (.cells #[.int .u32 s, v] 100)
  have hone : ∀ u ∈ ([.int .u32 s, v] : List Value), u.oneCell' = true := by
    obtain ⟨b, _, rfl, _⟩ := hv
    simp [Value.oneCell']
  have hr0 : Rw (w.alloc (.cells #[.int .u32 s, v] 100)) 100 2 wv ws.length vs := Rw.mods (S := fun _ => False) r (Mods.alloc _ _) (fun _ _ => id)
  have hwl : ws.length ≤ 1000000 := by have := h.wl; omega
  obtain ⟨v', w5, hrun, r1, r2, r3⟩ := hr0.push Tryd.underlying91 hi hz0 hz1 hz2 rfl (by decide) ⟨w.heap.size, 0, none⟩ 1 1 [.int .u32 s, v] rfl
    (fun j u hj => by rw [addr_add, cell_of_row _ _ _ _ _ _ hnew]; rcases j with _ | _ | j <;> simp at hj ⊢ <;> exact hj) hone (by unfold maxLen; omega) (by omega) (by omega)
  obtain ⟨z, k, rfl, _, _⟩ := r1.form
  have ha : Anew w wv (.slice z (ws.length + 1) k) := fun j hj => by
    rcases r3 with r3 | ⟨k', h1, h2⟩
    · rw [r3] at hj; exact .inl hj
    · rw [h1] at hj
      obtain rfl := Option.some.inj hj
      simp at h2
      exact .inr (by omega)
  have hm5 : Mods (fun j => wv.ownBlock = some j) w w5 := (Mods.alloc w _).trans r2 (fun b hb => .inl hb)
  have hg5 : w5.heap[g]? = some (.cells (dcells N sb hb wv rg c p d) 94 (0, 0)) := (hm5.block g h.lt (fun e => (k4 g e).1 rfl)).trans h.row
  have hq5 : w5.heap[q]? = some (.cells #[.int .u32 s, v] 100 (0, 0)) := (hm5.block q (Array.getElem?_eq_some_iff.1 hq).1 (fun e => hqn q e rfl)).trans hq
  have hgq : g ≠ q := fun e => by
    have h1 := h.row
    rw [e, hq] at h1
    injection h1 with h1
    injection h1 with _ h1
    cases h1
  have hm6 : Mods (fun j => j = g) w5 (w5.setCell ⟨g, 3, none⟩ (.slice z (ws.length + 1) k)) := Mods.set (S := fun j => j = g) w5 ⟨g, 3, none⟩ _ rfl
  have hg6 : (w5.setCell ⟨g, 3, none⟩ (.slice z (ws.length + 1) k)).heap[g]? = some (.cells (dcells N sb hb (.slice z (ws.length + 1) k) rg c p d) 94 (0, 0)) := by rw [row_set hg5, dset_3]
  have hq6 : (w5.setCell ⟨g, 3, none⟩ (.slice z (ws.length + 1) k)).heap[q]? = some (.cells #[.int .u32 s, v] 100 (0, 0)) := (hm6.block q (Array.getElem?_eq_some_iff.1 hq5).1 (fun e => hgq e.symm)).trans hq5
  have hbl : hb < w.heap.size := m2.lt
  have hW : Mods (fun j => wv.ownBlock = some j ∨ j = g) w (w5.setCell ⟨g, 3, none⟩ (.slice z (ws.length + 1) k)) := (hm5.mono (T := fun j => wv.ownBlock = some j ∨ j = g) (fun b hb => .inl (.inl hb))).trans hm6 (fun b hb => .inl (.inr hb))
  have kW : ∀ b cs, w.heap[b]? = some (.cells cs 5 (0, 0)) → ¬ (wv.ownBlock = some b ∨ b = g) := fun b cs hb' hd => by
    rcases hd with hd | hd
    · exact k1 b cs hb' (.inr (.inr (.inr hd)))
    · exact k1 b cs hb' (.inl hd)
  have m26 := m2.mods hW (fun e => by rcases e with e | e; exact (k4 hb e).2.2 rfl; exact k3 e.symm)
  have m26' : MapV Tryd.prog 22 (w5.setCell ⟨g, 3, none⟩ (.slice z (ws.length + 1) k)).drew hb n2 f2 := m26.same rfl
  obtain ⟨w7, hst, m27, hm7, hz7⟩ := m26'.store keyed23 Tryd.underlying90 (by unfold maxLen; omega) (v := v) (key23 s (by omega))
  have hm7' : Mods (fun j => j = hb) (w5.setCell ⟨g, 3, none⟩ (.slice z (ws.length + 1) k)) w7 := ⟨hm7.os, hm7.tape, hm7.output, hm7.size, hm7.block⟩
  have hall : Mods (fun j => (wv.ownBlock = some j ∨ j = g) ∨ j = hb) w w7 := (hW.mono (T := fun j => (wv.ownBlock = some j ∨ j = g) ∨ j = hb) (fun b hb => .inl (.inl hb))).trans hm7' (fun b hb => .inl (.inr hb))
  have kA : ∀ b cs, w.heap[b]? = some (.cells cs 5 (0, 0)) → ¬ ((wv.ownBlock = some b ∨ b = g) ∨ b = hb) := fun b cs hb' hd => by
    rcases hd with hd | hd
    · exact kW b cs hb' hd
    · exact k1 b cs hb' (.inr (.inr (.inl hd)))
  have hv7 := hv.mods hall kA
  refine ⟨z, k, w5, w7, hrun, by rw [cell_of_row _ _ _ _ _ _ hg5]; rfl, by simp [World.frozen?, hg5], by rw [cell_of_row _ _ _ _ _ _ hg6]; rfl, by rw [cell_of_row _ _ _ _ _ _ hq6]; rfl, hst, ⟨⟨h.n1, h.n2, ?_, h.len, ?_, ?_, ?_, h.ne, by omega⟩, ?_, ha⟩⟩
  · exact (hm7'.block g (Array.getElem?_eq_some_iff.1 hg6).1 (fun e => k3 e)).trans hg6
  · exact ⟨n1, f1, m1.mods hall (fun e => by rcases e with (e | e) | e; exact (k4 sb e).2.1 rfl; exact k2 e.symm; exact h.ne e), by simp; omega, s1.mods hall kA⟩
  · refine ⟨_, _, m27, ?_, SM_upd (s2.mods hall kA) hv7 hy ?_ ?_⟩
    · split <;> omega
    · rw [lastW_app, if_pos rfl]
    · intro j hj; rw [lastW_app, if_neg (fun e => hj e.symm)]
  · refine ⟨vs ++ [.int .u32 s, v], ?_, WS_app hs hv7 hy (WS.mods hall kA qs)⟩
    have e1 : (ws ++ [(s, y)]).length = ws.length + 1 := by simp
    rw [e1]
    have hown : ∀ j, (Value.slice z (ws.length + 1) k).ownBlock = some j → j ≠ g ∧ j ≠ hb := fun j hj => by
      rcases ha j hj with h1 | h1
      · exact ⟨(k4 j h1).1, (k4 j h1).2.2⟩
      · have := h.lt; omega
    exact (r1.mods hm6 (fun j hj => (hown j hj).1)).mods hm7' (fun j hj => (hown j hj).2)
  · exact hall.mono (fun b hb' => .inl (by rcases hb' with (e | e) | e; exact .inr (.inr (.inr e)); exact .inl e; exact .inr (.inr (.inl e))))

end Go.Proofs.YtjdamlmoegippaaDoor.dk.pv
