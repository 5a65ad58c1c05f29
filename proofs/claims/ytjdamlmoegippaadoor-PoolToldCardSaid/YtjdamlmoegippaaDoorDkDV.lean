/-
  Contract: disk.Tamper. Condition: the disk lies in memory as said.
-/
import Derived.Test.YtjdamlmoegippaaDoorDkDTb
import Derived.BigQuiet
import Derived.Deep.QuietTactic
import Derived.Deep.RegionHeld3
namespace Go.Proofs.YtjdamlmoegippaaDoor.dk
open Go.RowKit
/-- The writes of other sectors. -/
def rest (s : Nat) (ws : List (Nat × Nat)) : List (Nat × Nat) := ws.filter (fun a => decide (a.1 ≠ s))
theorem lastW_rest (s j : Nat) : ∀ ws : List (Nat × Nat), lastW j (rest s ws) = if j = s then none else lastW j ws
  | [] => by simp [rest, lastW]
  | (a, b) :: r => by
    have ih := lastW_rest s j r
    by_cases ha : a = s
    · have e : rest s ((a, b) :: r) = rest s r := by simp [rest, ha]
      rw [e, ih]
      by_cases hj : j = s
      · rw [if_pos hj, if_pos hj]
      · rw [if_neg hj, if_neg hj]
        show _ = (match lastW j r with | some y' => some y' | none => if a = j then some b else none)
        rw [if_neg (by omega)]
        cases lastW j r <;> rfl
    · have e : rest s ((a, b) :: r) = (a, b) :: rest s r := by simp [rest, ha]
      rw [e]
      show (match lastW j (rest s r) with | some y' => some y' | none => if a = j then some b else none) = _
      rw [ih]
      by_cases hj : j = s
      · rw [if_pos hj, if_pos hj]
        show (if a = j then some b else none) = none
        rw [if_neg (by omega)]
      · rw [if_neg hj, if_neg hj]
        rfl
theorem lastW_mem {s : Nat} : ∀ {ws : List (Nat × Nat)}, lastW s ws = none → ∀ a ∈ ws, a.1 ≠ s
  | [], _, a, ha => by simp at ha
  | (a', b') :: r, h, a, ha => by
    have h' : (match lastW s r with | some y' => some y' | none => if a' = s then some b' else none) = none := h
    cases hr : lastW s r with
    | some y => rw [hr] at h'; cases h'
    | none =>
      rw [hr] at h'
      have h2 : (if a' = s then some b' else none) = none := h'
      rcases List.mem_cons.1 ha with rfl | ha
      · intro e; rw [if_pos e] at h2; cases h2
      · exact lastW_mem hr a ha
theorem rest_none {s : Nat} {ws : List (Nat × Nat)} (h : lastW s ws = none) : rest s ws = ws := List.filter_eq_self.2 (fun a ha => by simp [lastW_mem h a ha])
theorem rest_map (s : Nat) (ts : List (Nat × Nat × Nat)) : rest s (ts.map (fun t => (t.1, t.2.1))) = (stay s ts).map (fun t => (t.1, t.2.1)) := by
  unfold rest stay
  rw [List.filter_map]
  rfl
theorem own_slice (x : Option Addr) (n k m l : Nat) : (Value.slice x n k).ownBlock = (Value.slice x m l).ownBlock := by
  rcases x with _ | ⟨b, o, _ | _⟩ <;> rfl
theorem stay_le (s : Nat) (ts : List (Nat × Nat × Nat)) : (stay s ts).length ≤ ts.length := List.length_filter_le _ _
section
variable {w w' : World} {g N sb hb : Nat} {wv : Value} {su : Nat → Option Nat} {ws : List (Nat × Nat)} {rg : List Value} {c p : Int} {d : Bool} {K : Nat}
set_option maxRecDepth 100000 in
set_option maxHeartbeats 4000000 in
theorem forgetD_none (h : DK w g N sb hb wv su ws rg c p d K) (s : Nat) (hs : s < N) (hl : lastW s ws = none) :
    Calls Tryd.prog 39 #[.pointer (some ⟨g, 0, none⟩), .int .u32 s] w (DkP w g N sb hb wv su (rest s ws) rg c p d K (.tuple #[])) := by
  rw [rest_none hl]
  have n2 := h.n2
  obtain ⟨w1, hw1⟩ : ∃ w1, w1 = w.alloc (.cells #[.int .u32 s] 22) := ⟨_, rfl⟩
  obtain ⟨q, hq⟩ : ∃ q, q = w.heap.size := ⟨_, rfl⟩
  have b1 : Below w.heap.size w w1 := by rw [hw1]; exact (Below.refl _ _).alloc (Nat.le_refl _) _
  have hqr : w1.heap[q]? = some (.cells #[.int .u32 s] 22 (0, 0)) := by rw [hw1, hq]; exact heap_alloc_new _ _
  have qc : w1.cell? ⟨q, 0, none⟩ = some (.int .u32 s) := by rw [cell_of_row _ _ _ _ _ _ hqr]; rfl
  have h1 := h.below b1
  have e2 := h1.c2
  have LB : ∃ x n k, ∀ m, (Instr.lookup 90 (.map (some hb)) (.int .u32 s) true).run Tryd.prog (w1.drewN m) = .ok (.tuple #[.slice x n k, .bool false]) (w1.drewN m) := by
    obtain ⟨n2, f2, m2, _, s2⟩ := h1.shown
    have hf : f2 (.int .u32 s) = none := by
      rcases s2 s with ⟨_, b⟩ | ⟨y, v, a, _⟩
      · exact b
      · have a' : lastW s ws = some y := a
        rw [hl] at a'; cases a'
    refine ⟨none, 0, 0, fun m => ?_⟩
    have := (m2.same (w' := w1.drewN m) rfl).look_ok keyed23 Tryd.underlying90 (zero32 _) (key23 s (by omega))
    rw [this, hf]; rfl
  obtain ⟨x, n, k, lb⟩ := LB
  have e2n : ∀ m, (w1.drewN m).cell? ⟨g, 2, none⟩ = some (.map (some hb)) := fun m => e2
  have qcn : ∀ m, (w1.drewN m).cell? ⟨q, 0, none⟩ = some (.int .u32 s) := fun m => qc
  have FIN : Hid (∀ m, DK (w1.drewN m) g N sb hb wv su ws rg c p d K) := fun m => h1.heap rfl
  have MF : Hid (∀ m, Mods (Dt g sb hb wv) w (w1.drewN m)) := fun m => Mods.of_below (b1.trans ⟨rfl, rfl, rfl, Nat.le_refl _, fun _ _ => rfl⟩)
  have HW1 := Lib.hid hw1
  have HQ := Lib.hid hq
  clear h h1 hw1 hq b1 hqr hl
  go_enter Tryd.func39, Tryd.ntmps39
  go_wp2_with fail
  rw [← HW1.out, ← HQ.out]
  go_quiet (fail)
  go_wp2_with fail
  go_end0
  exact ⟨_, rfl, FIN.out _, MF.out _, anew_same _ _⟩
set_option maxRecDepth 100000 in
set_option maxHeartbeats 4000000 in
theorem forgetD_has (h : DK w g N sb hb wv su ws rg c p d K) (s : Nat) (hs : s < N) {y : Nat} (hl : lastW s ws = some y) :
    Calls Tryd.prog 39 #[.pointer (some ⟨g, 0, none⟩), .int .u32 s] w (DkP w g N sb hb wv su (rest s ws) rg c p d K (.tuple #[])) := by
  have n2 := h.n2
  obtain ⟨w1, hw1⟩ : ∃ w1, w1 = w.alloc (.cells #[.int .u32 s] 22) := ⟨_, rfl⟩
  obtain ⟨q, hq⟩ : ∃ q, q = w.heap.size := ⟨_, rfl⟩
  have b1 : Below w.heap.size w w1 := by rw [hw1]; exact (Below.refl _ _).alloc (Nat.le_refl _) _
  have hqr : w1.heap[q]? = some (.cells #[.int .u32 s] 22 (0, 0)) := by rw [hw1, hq]; exact heap_alloc_new _ _
  have qc : w1.cell? ⟨q, 0, none⟩ = some (.int .u32 s) := by rw [cell_of_row _ _ _ _ _ _ hqr]; rfl
  have h1 := h.below b1
  have e2 := h1.c2
  have LB : ∃ x n k, ∀ m, (Instr.lookup 90 (.map (some hb)) (.int .u32 s) true).run Tryd.prog (w1.drewN m) = .ok (.tuple #[.slice x n k, .bool true]) (w1.drewN m) := by
    obtain ⟨n2, f2, m2, _, s2⟩ := h1.shown
    rcases s2 s with ⟨a, _⟩ | ⟨y', v, _, hf, ⟨b, hv, _⟩, _⟩
    · have a' : lastW s ws = none := a
      rw [hl] at a'; cases a'
    · refine ⟨some ⟨b, 0, none⟩, (tx y').length, (tx y').length, fun m => ?_⟩
      have := (m2.same (w' := w1.drewN m) rfl).look_ok keyed23 Tryd.underlying90 (zero32 _) (key23 s (by omega))
      rw [this, hf, hv]; rfl
  obtain ⟨x, n, k, lb⟩ := LB
  have e2n : ∀ m, (w1.drewN m).cell? ⟨g, 2, none⟩ = some (.map (some hb)) := fun m => e2
  have qcn : ∀ m, (w1.drewN m).cell? ⟨q, 0, none⟩ = some (.int .u32 s) := fun m => qc
  have FIN : Hid (∀ m, DK (w1.drewN m) g N sb hb wv su ws rg c p d K) := fun m => h1.heap rfl
  have MF : Hid (∀ m, Below w.heap.size w (w1.drewN m)) := fun m => (b1.trans ⟨rfl, rfl, rfl, Nat.le_refl _, fun _ _ => rfl⟩)
  have HW1 := Lib.hid hw1
  have HQ := Lib.hid hq
  have HQR := Lib.hid hqr
  have NE := Lib.hid h.ne
  have HS : Hid (s < 65536) := by show _ < _; omega
  have HL := Lib.hid hl
  clear h h1 hw1 hq b1 hqr hl
  go_enter Tryd.func39, Tryd.ntmps39
  go_wp2_with fail
  rw [← HW1.out, ← HQ.out]
  go_quiet (fail)
  have hd := FIN.out nq
  have hb0 := MF.out nq
  have hr0 : (w1.drewN nq).heap[q]? = some (.cells #[.int .u32 s] 22 (0, 0)) := HQR.out
  have W0 := Lib.hid (lb nq)
  clear lb e2n qcn FIN MF HW1 HQR qc e2 W0
  generalize w1.drewN nq = wq at *
  obtain ⟨vs, rr, qs⟩ := hd.waits
  obtain ⟨ts, hts, rfl, htx⟩ := WS_open qs
  have hlen : ts.length = ws.length := by rw [hts, List.length_map]
  have hmem : ∃ t ∈ ts, t.1 = s := by
    refine Classical.byContradiction fun hno => ?_
    have : lastW s ws = none := lastW_none s ws (by
      rw [List.any_eq_false]
      intro a ha
      rw [hts, List.mem_map] at ha
      obtain ⟨t, ht, rfl⟩ := ha
      simp only [beq_iff_eq]
      exact fun e => hno ⟨t, ht, e⟩)
    rw [HL.out] at this; cases this
  obtain ⟨kb, kg1, kg2, kw⟩ := hd.kinds
  have S0 : SK wq wq g N sb hb wv su (fun j => lastW j ws) 0 ws rg c p d K := by
    obtain ⟨n, f, a, b, e⟩ := hd.sure
    exact ⟨hd.row, ⟨n, f, a, by omega, e⟩, hd.shown, Mods.refl _ _⟩
  obtain ⟨w2, st2, s2, m2⟩ := S0.drew.drop NE.out HS.out (sh' := fun j => if j = s then none else lastW j ws) (by simp) (fun j hj => by simp [hj])
  have e2q : wq.drew.cell? ⟨g, 2, none⟩ = some (.map (some hb)) := hd.c2
  have qcq : wq.drew.cell? ⟨q, 0, none⟩ = some (.int .u32 s) := by show wq.cell? _ = _; rw [cell_of_row _ _ _ _ _ _ hr0]; rfl
  have hqb : q ≠ hb := by
    intro e; subst e
    obtain ⟨_, _, mm, _⟩ := hd.shown
    obtain ⟨_, _, hm⟩ := mm.isMap
    rw [hr0] at hm; cases hm
  have hr2 : w2.heap[q]? = some (.cells #[.int .u32 s] 22 (0, 0)) := (m2.block q (Array.getElem?_eq_some_iff.1 hr0).1 hqb).trans hr0
  have rr2 : Rw w2 100 2 wv ws.length (fl ts) := (rr.mods (Mods.of_below (S := fun _ => False) (Below.refl _ _).drew) (fun _ _ => id)).mods m2 (fun j hj => (kw j hj).2.2)
  have e3 : w2.cell? ⟨g, 3, none⟩ = some wv := by rw [cell_of_row _ _ _ _ _ _ s2.row]; rfl
  have HD := Lib.hid hd
  obtain ⟨x, k, rfl, hx1, hx2⟩ := rr.form
  have R2 := Lib.hid rr2
  have DL := Lib.hid (delF rr2 hlen hr2 hmem)
  have S2 := Lib.hid s2
  have M2 := Lib.hid m2
  have KW := Lib.hid kw
  have KB := Lib.hid kb
  have TS := Lib.hid (And.intro hts htx)
  have ST2 := Lib.hid st2
  have HB0 := Lib.hid hb0
  unfold maxLen at hx2
  clear S0 s2 m2 kw kb hts htx st2 hb0 hr0 hr2 rr rr2 qs hd hmem hqb kg1 kg2
  go_wp2_with fail
  refine wp_region_still_tail 5 (by kernel_rfl) (by kernel_rfl) ?_
  simp only [List.take_succ_cons, List.take_zero, List.drop_succ_cons, List.drop_zero]
  iterate 5 still_step
  refine wpStill_nil ?_
  change wpList _ _ _ _ _ wq.drew
  have st2 := ST2.out
  have hmf : ∀ (fn : Fn) (first cap : Array Value) (w : World), (Instr.makeFunc fn first cap).run Tryd.prog w = .ok (.func fn first cap) w := fun _ _ _ _ => rfl
  go_wp2_with fail
  refine DL.out.mono ?_
  rintro e w3 ⟨m, rfl, hm, r3, m3⟩
  have hml : m ≤ ws.length := by have h1 := stay_le s ts; rw [hlen] at h1; omega
  have hxk : (Value.slice x m m).ownBlock = (Value.slice x ws.length k).ownBlock := own_slice _ _ _ _ _
  have kg : ¬ (Value.slice x ws.length k).ownBlock = some g := fun e => (KW.out g e).1 rfl
  have row3 : w3.heap[g]? = some (.cells (dcells N sb hb (.slice x ws.length k) rg c p d) 94 (0, 0)) := (m3.block g (Array.getElem?_eq_some_iff.1 S2.out.row).1 kg).trans S2.out.row
  have e33 : w3.cell? ⟨g, 3, none⟩ = some (.slice x ws.length k) := by rw [cell_of_row _ _ _ _ _ _ row3]; rfl
  have f33 : w3.frozen? ⟨g, 3, none⟩ = false := by simp [World.frozen?, row3]
  have m4 : Mods (fun j => j = g) w3 (w3.setCell ⟨g, 3, none⟩ (.slice x m m)) := Mods.set (S := fun j => j = g) w3 ⟨g, 3, none⟩ _ rfl
  have k2 : ∀ b cs, w2.heap[b]? = some (.cells cs 5 (0, 0)) → ¬ (Value.slice x ws.length k).ownBlock = some b := fun b cs h e => by
    have h2 := (Array.getElem?_eq_some_iff.1 h).1
    rcases R2.out.2.2 with ⟨h1, _⟩ | ⟨b', o', cap, cs', h1, hg, _⟩
    · rw [h1] at e; simp [Value.ownBlock] at e
    · rw [h1] at e
      have e' : b' = b := by simpa [Value.ownBlock] using e
      subst e'
      rw [hg] at h; injection h with h; injection h with _ h; cases h
  have k3 : ∀ b cs, w3.heap[b]? = some (.cells cs 5 (0, 0)) → ¬ b = g := fun b cs h e => by
    rw [e, row3] at h; injection h with h; injection h with _ h; cases h
  have kq : ∀ b cs, wq.drew.heap[b]? = some (.cells cs 5 (0, 0)) → ¬ b = hb := fun b cs h e => KB.out b cs h (.inr (.inr (.inl e)))
  have gs : ¬ sb = g := by
    intro e
    obtain ⟨_, _, mm, _⟩ := S2.out.sure
    obtain ⟨_, _, hm'⟩ := mm.isMap
    rw [e, S2.out.row] at hm'; cases hm'
  have gh : ¬ hb = g := by
    intro e
    obtain ⟨_, _, mm, _⟩ := S2.out.shown
    obtain ⟨_, _, hm'⟩ := mm.isMap
    rw [e, S2.out.row] at hm'; cases hm'
  have FIN : Hid (DK (w3.setCell ⟨g, 3, none⟩ (.slice x m m)) g N sb hb (.slice x m m) su (rest s ws) rg c p d K) := by
    have hrl : (rest s ws).length = m := by rw [TS.out.1, rest_map, List.length_map]; exact hm.symm
    refine ⟨HD.out.n1, HD.out.n2, by rw [row_set row3, dset_3], HD.out.len, ?_, ?_, ⟨fl (stay s ts), ?_, ?_⟩, HD.out.ne, HD.out.wl⟩
    · obtain ⟨n, f, a, b, e⟩ := S2.out.sure
      exact ⟨n, f, (a.mods m3 (fun e => (KW.out sb e).2.1 rfl)).mods m4 gs, by omega, (e.mods m3 k2).mods m4 k3⟩
    · obtain ⟨n, f, a, b, e⟩ := S2.out.shown
      refine ⟨n, f, (a.mods m3 (fun e => (KW.out hb e).2.2 rfl)).mods m4 gh, b, ?_⟩
      have e' := (e.mods m3 k2).mods m4 k3
      have e2 : (fun j => if j = s then none else lastW j ws) = fun j => lastW j (rest s ws) := funext fun j => (lastW_rest s j ws).symm
      rw [← e2]; exact e'
    · show Rw _ _ _ _ _ _
      rw [hrl]
      exact (r3.caps).mods m4 (fun j e => (KW.out j (hxk ▸ e)).1)
    · rw [TS.out.1, rest_map]
      refine WS_close (fun t ht => ?_)
      obtain ⟨a1, a2, a3⟩ := TS.out.2 t (List.mem_filter.1 ht).1
      exact ⟨a1, (((a2.heap (w' := wq.drew) rfl).mods M2.out kq).mods m3 k2).mods m4 k3, a3⟩
  have MF : Hid (Mods (Dt g sb hb (.slice x ws.length k)) w (w3.setCell ⟨g, 3, none⟩ (.slice x m m))) := by
    have a1 : Mods (Dt g sb hb (.slice x ws.length k)) w wq.drew := Mods.of_below (HB0.out.trans ((Below.refl _ _).drew))
    have a2 := a1.trans M2.out (fun b hb' => .inl (.inr (.inr (.inl hb'))))
    have a3 := a2.trans m3 (fun b hb' => .inl (.inr (.inr (.inr hb'))))
    exact a3.trans m4 (fun b hb' => .inl (.inl hb'))
  have AN : Hid (Anew w (.slice x ws.length k) (.slice x m m)) := fun j hj => .inl (hxk ▸ hj)
  clear r3 m3 hm row3 m4 k2 k3 kq gs gh kg hxk
  go_wp2_with fail
  go_end0
  exact ⟨_, rfl, FIN.out, MF.out, AN.out⟩
theorem forgetD (h : DK w g N sb hb wv su ws rg c p d K) (s : Nat) (hs : s < N) :
    Calls Tryd.prog 39 #[.pointer (some ⟨g, 0, none⟩), .int .u32 s] w (DkP w g N sb hb wv su (rest s ws) rg c p d K (.tuple #[])) := by
  cases hl : lastW s ws with
  | none => exact forgetD_none h s hs hl
  | some y => exact forgetD_has h s hs hl
end
end Go.Proofs.YtjdamlmoegippaaDoor.dk
namespace Go.Proofs.YtjdamlmoegippaaDoor.dk
open Go.ChangeShapes Go.WideShapes Go.ChangeAt Go.RowKit
/-- One sector is sure to have a byte. -/
def putS (su : Nat → Option Nat) (s y : Nat) : Nat → Option Nat := fun j => if j = s then some y else su j
section
variable {w w' : World} {g N sb hb : Nat} {wv : Value} {su : Nat → Option Nat} {ws : List (Nat × Nat)} {rg : List Value} {c p : Int} {d : Bool} {K : Nat}
theorem DK.sureset (h : DK w g N sb hb wv su ws rg c p d K) {s y : Nat} {v : Value} (hs : s < 65536) (hv : TX w v (tx y)) (hy : YB y) (hK : K < 1000000) :
    ∃ w'', (Instr.mapUpdate 90 (.map (some sb)) (.int .u32 s) v).run Tryd.prog w = .ok () w'' ∧ DK w'' g N sb hb wv (putS su s y) ws rg c p d (K + 1) ∧ Mods (fun k => k = sb) w w'' := by
  obtain ⟨n1, f1, m1, b1, s1⟩ := h.sure
  obtain ⟨n2, f2, m2, b2, s2⟩ := h.shown
  obtain ⟨vs, r, q⟩ := h.waits
  obtain ⟨k1, k2, k3, k4⟩ := h.kinds
  obtain ⟨w'', hst, m27, hm7, hz7⟩ := m1.store keyed23 Tryd.underlying90 (by unfold maxLen; omega) (v := v) (key23 s (by omega))
  have kA : ∀ b cs, w.heap[b]? = some (.cells cs 5 (0, 0)) → ¬ b = sb := fun b cs hb' e => k1 b cs hb' (.inr (.inl e))
  refine ⟨w'', hst, ⟨h.n1, h.n2, (hm7.block g h.lt k2).trans h.row, h.len, ⟨_, _, m27, ?_, SM_upd (s1.mods hm7 kA) (hv.mods hm7 kA) hy (by simp [putS]) (fun j hj => by simp [putS, hj])⟩, ⟨n2, f2, m2.mods hm7 h.ne.symm, by omega, s2.mods hm7 kA⟩, ⟨vs, r.mods hm7 (fun k hk => (k4 k hk).2.1), WS.mods hm7 kA q⟩, h.ne, by omega⟩, hm7⟩
  split <;> omega
set_option maxRecDepth 100000 in
set_option maxHeartbeats 4000000 in
theorem tamperD (h : DK w g N sb hb wv su ws rg c p d K) (s y : Nat) (v : Value) (hs : s < N) (hv : TX w v (tx y)) (hy : YB y) (hK : K < 1000000) :
    Calls Tryd.prog 16 #[.pointer (some ⟨g, 0, none⟩), .int .u32 s, v] w (DkP w g N sb hb wv (putS su s y) (rest s ws) rg c p d (K + 1) (.int .i64 0)) := by
  have n2 := h.n2
  have Hs := Lib.hid (hasD h s)
  rw [if_pos hs] at Hs
  obtain ⟨b, rfl, hb0⟩ := hv
  rw [tx_len]
  have F := Lib.hid (fitsD (some ⟨b, 0, none⟩) 512 512 (by omega) w)
  have O := Lib.hid (or2 0 0 w)
  obtain ⟨w1, hw1⟩ : ∃ w1, w1 = w.alloc (.cells #[.int .i64 0, .int .i64 0] 34) := ⟨_, rfl⟩
  have hbw1 : Below w.heap.size w w1 := by rw [hw1]; exact (Below.refl _ _).alloc (Nat.le_refl _) _
  have h1 := h.below hbw1
  have T1 : Hid (TX w1 (.slice (some ⟨b, 0, none⟩) 512 512) (tx y)) := by
    have : TX w (.slice (some ⟨b, 0, none⟩) 512 512) (tx y) := ⟨b, by rw [tx_len], hb0⟩
    exact this.below hbw1
  have FG := Lib.hid (forgetD h1 s hs)
  have HB1 := Lib.hid hbw1
  have D1 := Lib.hid h1
  rw [← hw1] at O
  have HW1 := Lib.hid hw1
  have PC : Hid (K < 1000000 ∧ YB y ∧ s < 65536) := ⟨hK, hy, by omega⟩
  clear h hb0 hw1 hbw1 h1 hK hy
  go_enter Tryd.func16, Tryd.ntmps16
  go_wp2_with fail
  refine Hs.out.mono ?_
  rintro e w' ⟨rfl, rfl⟩
  go_wp2_with fail
  refine F.out.mono ?_
  rintro e w' ⟨rfl, rfl⟩
  go_wp2_with fail
  rw [← HW1.out]
  refine O.out.mono ?_
  rintro e w' ⟨rfl, rfl⟩
  go_wp2_with fail
  refine FG.out.mono ?_
  rintro e w2 ⟨v2, rfl, d2, m2, an⟩
  have kb := D1.out.kinds
  have T2 : Hid (TX w2.drew (.slice (some ⟨b, 0, none⟩) 512 512) (tx y)) := (T1.out.mods m2 kb.1).heap rfl
  have D2 : Hid (DK w2.drew g N sb hb v2 su (rest s ws) rg c p d K) := d2.heap rfl
  have e1 : w2.drew.cell? ⟨g, 1, none⟩ = some (.map (some sb)) := d2.c1
  have M2 : Hid (Mods (Dt g sb hb wv) w w2.drew) := ((Mods.of_below HB1.out (S := Dt g sb hb wv)).trans m2 (fun _ h => .inl h)).trans (Mods.of_below (Below.refl _ _).drew (S := fun _ => False)) (fun _ h => .inl (by cases h))
  have AN : Hid (Anew w wv v2) := fun j hj => by
    rcases an j hj with h | h
    · exact .inl h
    · exact .inr (Nat.le_trans HB1.out.size h)
  clear d2 m2 an kb
  go_wp2_with fail
  go_region_held3 (fun W => W.cell? ⟨g, 1, none⟩ = some (.map (some sb))) (go_keep)
    (first | (go_at_call 40; refine (copiedD T2.out).mono ?_; rintro e w3 ⟨rfl, hw3⟩; have HW3 := Lib.hid hw3; have BB : Hid (Below w2.drew.heap.size w2.drew w3) := (by show Below _ _ _; rw [hw3]; exact (Below.refl _ _).alloc (Nat.le_refl _) _); have c3 := (D2.out.below BB.out).c1; have TT : Hid (TX w3 (.slice (some ⟨w2.heap.size, 0, none⟩) 512 512) (tx y)) := (by show TX _ _ _; rw [hw3]; exact ⟨w2.heap.size, by rw [tx_len], heap_alloc_new _ _⟩); obtain ⟨w4, st4, d4, m4⟩ := (D2.out.below BB.out).sureset PC.out.2.2 TT.out PC.out.2.1 PC.out.1; have D4 := Lib.hid d4; have M4 := Lib.hid m4; have g4 := d4.c1; clear hw3 d4 m4))
  go_wp2_with fail
  go_ret
  exact ⟨_, rfl, D4.out, (M2.out.trans (Mods.of_below BB.out (S := fun _ => False)) (fun _ h => .inl (by cases h))).trans M4.out (fun _ h => .inl (.inr (.inl h))), AN.out⟩
end
end Go.Proofs.YtjdamlmoegippaaDoor.dk
