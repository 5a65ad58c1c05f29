/-
  The document's field in memory; its New, In, part, Slack, wrong, room, there. Condition: none.
-/
import Derived.Test.YtjgkochbfjlinaaL
namespace Go.Proofs.Ytjgkochbfjlinaa
open Go.RowKit
/-- The document's field's cells. -/
def rC (lb N : Nat) (T : Nat → Acc) : List Value := .slice (some ⟨lb, 0, none⟩) N N :: tC T
/-- The document's field. -/
structure RF (w : World) (q lb N : Nat) (s : St) : Prop where
  blk : w.heap[q]? = some (.cells (rC lb N s.T).toArray 44 (0, 0))
  lst : ∃ cs : Array Value, w.heap[lb]? = some (.cells cs 3 (0, 0)) ∧ cs.size = N ∧ ∀ i, i < N → cs[i]? = some (.int .i64 (s.f i))
  n1 : 1 ≤ N
  n2 : N ≤ 2048
  inv : Inv N s.f s.T
  fb : ∀ i, s.f i ≤ 100000
def Rt (q lb : Nat) : Nat → Prop := fun k => k = q ∨ k = lb
theorem rC_set (lb N : Nat) (T : Nat → Acc) (k : Nat) (v : Value) : (rC lb N T).toArray.setIfInBounds (k + 1) v = (Value.slice (some ⟨lb, 0, none⟩) N N :: (tC T).set k v).toArray := by
  simp [rC, List.setIfInBounds_toArray]
section
variable {w w' : World} {q lb N : Nat} {s s' : St}
theorem RF.lt (h : RF w q lb N s) : q < w.heap.size := (Array.getElem?_eq_some_iff.1 h.blk).1
theorem RF.lt2 (h : RF w q lb N s) : lb < w.heap.size := by obtain ⟨cs, h1, _⟩ := h.lst; exact (Array.getElem?_eq_some_iff.1 h1).1
theorem RF.cell (h : RF w q lb N s) (k : Nat) : w.cell? ⟨q, k, none⟩ = (rC lb N s.T)[k]? := by rw [cell_of_row _ _ _ _ _ _ h.blk]; simp
theorem RF.c0 (h : RF w q lb N s) : w.cell? ⟨q, 0, none⟩ = some (.slice (some ⟨lb, 0, none⟩) N N) := by rw [h.cell]; rfl
theorem RF.a4 (h : RF w q lb N s) (t : Nat) (ht : t < 9) : A4 w q (1 + t * 4) (s.T t) := by
  obtain ⟨h0, h1, h2, h3⟩ := tC_at s.T t ht
  refine ⟨?_, ?_, ?_, ?_⟩
  · rw [h.cell, show 1 + t * 4 = 4 * t + 1 by omega]; exact h0
  · rw [h.cell, show 1 + t * 4 + 1 = 4 * t + 1 + 1 by omega]; exact h1
  · rw [h.cell, show 1 + t * 4 + 2 = 4 * t + 2 + 1 by omega]; exact h2
  · rw [h.cell, show 1 + t * 4 + 3 = 4 * t + 3 + 1 by omega]; exact h3
theorem RF.fz (h : RF w q lb N s) (k : Nat) : w.frozen? ⟨q, k, none⟩ = false := by simp [World.frozen?, h.blk]
theorem RF.at (h : RF w q lb N s) (i : Nat) (hi : i < N) : w.cell? ⟨lb, i, none⟩ = some (.int .i64 (s.f i)) ∧ w.frozen? ⟨lb, i, none⟩ = false := by
  obtain ⟨cs, h1, h2, h3⟩ := h.lst
  exact ⟨by rw [cell_of_row _ _ _ _ _ _ h1]; exact h3 i hi, by simp [World.frozen?, h1]⟩
theorem RF.ne (h : RF w q lb N s) : q ≠ lb := by
  intro e
  obtain ⟨cs, h1, _⟩ := h.lst
  rw [← e, h.blk] at h1
  injection h1 with h1
  injection h1 with _ h1
  cases h1
theorem RF.mods {S : Nat → Prop} (h : RF w q lb N s) (hm : Mods S w w') (h0 : ¬ S q) (h1 : ¬ S lb) : RF w' q lb N s := by
  obtain ⟨cs, k1, k2, k3⟩ := h.lst
  exact ⟨(hm.block q h.lt h0).trans h.blk, ⟨cs, (hm.block lb h.lt2 h1).trans k1, k2, k3⟩, h.n1, h.n2, h.inv, h.fb⟩
theorem RF.below (h : RF w q lb N s) (hb : Below w.heap.size w w') : RF w' q lb N s := h.mods (S := fun _ => False) (Mods.of_below hb) id id
theorem RF.heap (h : RF w q lb N s) (e : w'.heap = w.heap) : RF w' q lb N s := ⟨by rw [e]; exact h.blk, by rw [e]; exact h.lst, h.n1, h.n2, h.inv, h.fb⟩
theorem RF.shn (h : RF w q lb N s) (t : Nat) : 0 ≤ (s.T t).sh ∧ (s.T t).sh ≤ N := by
  have := h.inv.rq t; have := h.inv.cq t; unfold Acc.sh; omega
theorem RF.preb (h : RF w q lb N s) (i : Nat) (hi : i ≤ 9) : 0 ≤ pre (fun t => (s.T t).sh) i ∧ pre (fun t => (s.T t).sh) i ≤ N := by
  have h1 := pre_mono (fun t => (s.T t).sh) (fun t => (h.shn t).1) 0 i
  have h2 := pre_mono (fun t => (s.T t).sh) (fun t => (h.shn t).1) i (9 - i)
  rw [Nat.zero_add] at h1
  rw [show i + (9 - i) = 9 by omega, pre_nine _ (by rw [h.inv.z]; rfl)] at h2
  have h3 := h.inv.sl
  unfold slack at h3
  have : pre (fun t => (s.T t).sh) 0 = 0 := rfl
  omega
/-- A tenant's account is written. -/
theorem RF.setA (h : RF w q lb N s) (n : Nat) (hn : n < 9) (a : Acc) (hv : Inv N s.f (updT s.T n a)) :
    RF ((((w.setCell ⟨q, 1 + n * 4, none⟩ (.bool a.i)).setCell ⟨q, 1 + n * 4 + 1, none⟩ (.int .i64 a.r)).setCell ⟨q, 1 + n * 4 + 2, none⟩ (.int .i64 a.q)).setCell ⟨q, 1 + n * 4 + 3, none⟩ (.int .i64 a.c)) q lb N ⟨s.f, updT s.T n a⟩
      ∧ Mods (Rt q lb) w ((((w.setCell ⟨q, 1 + n * 4, none⟩ (.bool a.i)).setCell ⟨q, 1 + n * 4 + 1, none⟩ (.int .i64 a.r)).setCell ⟨q, 1 + n * 4 + 2, none⟩ (.int .i64 a.q)).setCell ⟨q, 1 + n * 4 + 3, none⟩ (.int .i64 a.c)) := by
  have hm : Mods (fun k => k = q) w ((((w.setCell ⟨q, 1 + n * 4, none⟩ (.bool a.i)).setCell ⟨q, 1 + n * 4 + 1, none⟩ (.int .i64 a.r)).setCell ⟨q, 1 + n * 4 + 2, none⟩ (.int .i64 a.q)).setCell ⟨q, 1 + n * 4 + 3, none⟩ (.int .i64 a.c)) :=
    (((Mods.set (S := fun k => k = q) w _ _ rfl).trans (Mods.set (S := fun k => k = q) _ _ _ rfl) (fun _ hb => .inl hb)).trans (Mods.set (S := fun k => k = q) _ _ _ rfl) (fun _ hb => .inl hb)).trans (Mods.set (S := fun k => k = q) _ _ _ rfl) (fun _ hb => .inl hb)
  obtain ⟨cs, k1, k2, k3⟩ := h.lst
  refine ⟨⟨?_, ⟨cs, (hm.block lb h.lt2 (fun e => h.ne e.symm)).trans k1, k2, k3⟩, h.n1, h.n2, hv, h.fb⟩, hm.mono (fun b hb => .inl (.inl hb))⟩
  rw [blk_set (blk_set (blk_set (blk_set h.blk _ _) _ _) _ _) _ _]
  rw [show 1 + n * 4 = 4 * n + 1 by omega, rC_set]
  rw [show 4 * n + 1 + 1 = (4 * n + 1) + 1 by omega, show 4 * n + 1 + 2 = (4 * n + 2) + 1 by omega, show 4 * n + 1 + 3 = (4 * n + 3) + 1 by omega]
  simp only [List.setIfInBounds_toArray, List.set_cons_succ]
  rw [tC_upd s.T n hn a]
  rfl
/-- The document's field, but for what holds of all of it. -/
structure RW (w : World) (q lb N : Nat) (f : Nat → Nat) (T : Nat → Acc) : Prop where
  blk : w.heap[q]? = some (.cells (rC lb N T).toArray 44 (0, 0))
  lst : ∃ cs : Array Value, w.heap[lb]? = some (.cells cs 3 (0, 0)) ∧ cs.size = N ∧ ∀ i, i < N → cs[i]? = some (.int .i64 (f i))
theorem RF.raw (h : RF w q lb N s) : RW w q lb N s.f s.T := ⟨h.blk, h.lst⟩
theorem RW.full {f : Nat → Nat} {T : Nat → Acc} (h : RW w q lb N f T) (n1 : 1 ≤ N) (n2 : N ≤ 2048) (hv : Inv N f T) (fb : ∀ i, f i ≤ 100000) : RF w q lb N ⟨f, T⟩ := ⟨h.blk, h.lst, n1, n2, hv, fb⟩
theorem RW.heap {f : Nat → Nat} {T : Nat → Acc} (h : RW w q lb N f T) (e : w'.heap = w.heap) : RW w' q lb N f T := ⟨by rw [e]; exact h.blk, by rw [e]; exact h.lst⟩
theorem RW.facts {f : Nat → Nat} {T : Nat → Acc} (h : RW w q lb N f T) (n i : Nat) (hn : n < 9) (hi : i < N) : w.cell? ⟨q, 0, none⟩ = some (.slice (some ⟨lb, 0, none⟩) N N) ∧ w.cell? ⟨q, 1 + n * 4 + 3, none⟩ = some (.int .i64 (T n).c) ∧ w.cell? ⟨lb, i, none⟩ = some (.int .i64 (f i)) ∧ w.frozen? ⟨q, 1 + n * 4 + 3, none⟩ = false ∧ w.frozen? ⟨lb, i, none⟩ = false := by
  obtain ⟨cs, h1, h2, h3⟩ := h.lst
  have hc : ∀ k, w.cell? ⟨q, k, none⟩ = (rC lb N T)[k]? := fun k => by rw [cell_of_row _ _ _ _ _ _ h.blk]; simp
  refine ⟨by rw [hc]; rfl, ?_, by rw [cell_of_row _ _ _ _ _ _ h1]; exact h3 i hi, by simp [World.frozen?, h.blk], by simp [World.frozen?, h1]⟩
  rw [hc, show 1 + n * 4 + 3 = 4 * n + 3 + 1 by omega]; exact (tC_at T n hn).2.2.2
theorem RW.setC {f : Nat → Nat} {T : Nat → Acc} (h : RW w q lb N f T) (n : Nat) (hn : n < 9) (c : Int) :
    RW (w.setCell ⟨q, 1 + n * 4 + 3, none⟩ (.int .i64 c)) q lb N f (updT T n ⟨(T n).i, (T n).r, (T n).q, c⟩) ∧ Mods (Rt q lb) w (w.setCell ⟨q, 1 + n * 4 + 3, none⟩ (.int .i64 c)) := by
  have hm : Mods (fun k => k = q) w (w.setCell ⟨q, 1 + n * 4 + 3, none⟩ (.int .i64 c)) := Mods.set _ _ _ rfl
  obtain ⟨cs, k1, k2, k3⟩ := h.lst
  have hne : lb ≠ q := fun e => by rw [e, h.blk] at k1; injection k1 with k1; injection k1 with _ k1; cases k1
  refine ⟨⟨?_, ⟨cs, (hm.block lb (Array.getElem?_eq_some_iff.1 k1).1 hne).trans k1, k2, k3⟩⟩, hm.mono (fun b hb => .inl (.inl hb))⟩
  rw [blk_set h.blk, show 1 + n * 4 + 3 = (4 * n + 3) + 1 by omega, rC_set, tC_updc T n hn c]
  rfl
theorem RW.setL {f : Nat → Nat} {T : Nat → Acc} (h : RW w q lb N f T) (i v : Nat) :
    RW (w.setCell ⟨lb, i, none⟩ (.int .i64 v)) q lb N (upd f i v) T ∧ Mods (Rt q lb) w (w.setCell ⟨lb, i, none⟩ (.int .i64 v)) := by
  have hm : Mods (fun k => k = lb) w (w.setCell ⟨lb, i, none⟩ (.int .i64 v)) := Mods.set _ _ _ rfl
  obtain ⟨cs, k1, k2, k3⟩ := h.lst
  have hne : q ≠ lb := fun e => by rw [← e, h.blk] at k1; injection k1 with k1; injection k1 with _ k1; cases k1
  refine ⟨⟨(hm.block q (Array.getElem?_eq_some_iff.1 h.blk).1 hne).trans h.blk, ⟨cs.setIfInBounds i (.int .i64 v), blk_set k1 _ _, by simpa using k2, fun j hj => ?_⟩⟩, hm.mono (fun b hb => .inl (.inr hb))⟩
  rw [Array.getElem?_setIfInBounds]
  unfold upd
  by_cases e : i = j
  · rw [if_pos e, if_pos e.symm, if_pos (by omega)]
  · rw [if_neg e, if_neg (fun x => e x.symm)]; exact k3 j hj
end
def RNewP (w : World) (N : Nat) (e : Ending) (w' : World) : Prop :=
  ∃ q lb, e = .returned (.tuple #[.pointer (some ⟨q, 0, none⟩), .int .i64 0]) ∧ RF w' q lb N z0 ∧ w.heap.size ≤ q ∧ w.heap.size ≤ lb ∧ Below w.heap.size w w'
theorem newR_rows (w : World) (N : Nat) (h1 : 1 ≤ N) (h2 : N ≤ 2048) :
    RNewP w N (.returned (.tuple #[.pointer (some ⟨w.heap.size + 1, 0, none⟩), .int .i64 0])) ((w.alloc (.cells (Array.replicate N (.int .i64 0)) 3)).alloc (.cells (rC w.heap.size N z0.T).toArray 44)) := by
  have e := heap_alloc_new (w.alloc (.cells (Array.replicate N (.int .i64 0)) 3)) (.cells (rC w.heap.size N z0.T).toArray 44)
  have e2 := heap_alloc_new w (.cells (Array.replicate N (.int .i64 0)) 3)
  have hs : (w.alloc (.cells (Array.replicate N (.int .i64 0)) 3)).heap.size = w.heap.size + 1 := by simp
  rw [hs] at e
  refine ⟨w.heap.size + 1, w.heap.size, rfl, ⟨e, ⟨Array.replicate N (.int .i64 0), ?_, by simp, fun i hi => by simp [hi, z0]⟩, h1, h2, inv_new N, fun _ => Nat.zero_le _⟩, by omega, Nat.le_refl _, ((Below.refl _ _).alloc (Nat.le_refl _) _).alloc (by simp) _⟩
  rw [(Mods.alloc (S := fun _ => False) (w.alloc (.cells (Array.replicate N (.int .i64 0)) 3)) _).block w.heap.size (by simp) id]
  exact e2
set_option maxRecDepth 100000 in
theorem newR (N : Nat) (h1 : 1 ≤ N) (h2 : N ≤ 2048) (w : World) : Calls Try.prog 10 #[.int .i64 N] w (RNewP w N) := by
  have HF := Lib.hid (newR_rows w N h1 h2)
  have MK : ∀ w : World, (Instr.makeSlice 41 (.int .i64 N) (.int .i64 N)).run Try.prog w = .ok (.slice (some ⟨w.heap.size, 0, none⟩) N N) (w.alloc (.cells (Array.replicate N (.int .i64 0)) 3)) := fun w => make41 w N (by omega)
  have e1 : ¬ (N : Int) < 1 := by omega
  have e2 : ¬ (2048 : Int) < N := by omega
  clear h1 h2
  go_enter Try.func10, Try.ntmps10
  go_wp2_with fail
  go_ret2
  exact HF.out
theorem newR_no (n : Int) (h : n < 1 ∨ 2048 < n) (w : World) : Calls Try.prog 10 #[.int .i64 n] w fun e w' => e = .returned (.tuple #[.pointer none, .int .i64 1]) ∧ w = w' := by
  by_cases h1 : n < 1
  · clear h
    go_enter Try.func10, Try.ntmps10
    go_wp2_with fail
    go_ret2
    exact ⟨rfl, rfl⟩
  · have h2 : 2048 < n := by omega
    clear h
    go_enter Try.func10, Try.ntmps10
    go_wp2_with fail
    go_ret2
    exact ⟨rfl, rfl⟩
section
variable {w w' : World} {q lb N : Nat} {s : St}
theorem inR (h : RF w q lb N s) (t : Int) : Calls Try.prog 16 #[.pointer (some ⟨q, 0, none⟩), .int .i64 t] w fun e w' => e = .returned (.bool (decide (isIn s.T t))) ∧ w = w' := by
  by_cases h1 : 1 ≤ t
  · by_cases h8 : t ≤ 8
    · obtain ⟨n, rfl⟩ : ∃ n : Nat, t = n := ⟨t.toNat, by omega⟩
      have hn0 : n < 9 := by omega
      have c := (h.a4 n hn0).1
      have h9 : (n : Int) < 9 := by omega
      have e : decide (isIn s.T (n : Int)) = (s.T n).i := by
        cases hi : (s.T n).i with
        | true => exact decide_eq_true ⟨h1, h8, hi⟩
        | false => exact decide_eq_false (fun k => by have := k.2.2; rw [Int.toNat_natCast, hi] at this; cases this)
      rw [e]
      clear h e
      generalize (s.T n).i = b at *
      go_enter Try.func16, Try.ntmps16
      go_wp2_with fail
      go_ret
      exact ⟨rfl, rfl⟩
    · have e : decide (isIn s.T t) = false := decide_eq_false (fun k => h8 k.2.1)
      rw [e]
      clear h e
      go_enter Try.func16, Try.ntmps16
      go_wp2_with fail
      go_ret
      exact ⟨rfl, rfl⟩
  · have e : decide (isIn s.T t) = false := decide_eq_false (fun k => h1 k.1)
    rw [e]
    clear h e
    go_enter Try.func16, Try.ntmps16
    go_wp2_with fail
    go_ret
    exact ⟨rfl, rfl⟩
theorem partR (i : Bool) (r q c : Int) (w : World) : Calls Try.prog 37 #[.agg #[.bool i, .int .i64 r, .int .i64 q, .int .i64 c]] w fun e w' => e = .returned (.int .i64 (Acc.sh ⟨i, r, q, c⟩)) ∧ Below w.heap.size w w' := by
  unfold Acc.sh
  simp only
  by_cases hrc : r < c
  · have e : max r c = c := by omega
    rw [e]
    go_enter Try.func37, Try.ntmps37
    go_wp2
    go_ret
    exact ⟨rfl, ((Below.refl _ _).alloc (Nat.le_refl _) _)⟩
  · have e : max r c = r := by omega
    rw [e]
    go_enter Try.func37, Try.ntmps37
    go_wp2
    go_ret
    exact ⟨rfl, ((Below.refl _ _).alloc (Nat.le_refl _) _)⟩
set_option maxRecDepth 100000 in
set_option maxHeartbeats 1000000 in
theorem slackR (h : RF w q lb N s) : Calls Try.prog 13 #[.pointer (some ⟨q, 0, none⟩)] w fun e w' => e = .returned (.int .i64 (slack N s.T)) ∧ Below w.heap.size w w' := by
  have H := Lib.hid h
  have n2 := h.n2
  have c0 := h.c0
  have PB : Hid (∀ i : Nat, i ≤ 9 → 0 ≤ pre (fun t => (s.T t).sh) i ∧ pre (fun t => (s.T t).sh) i ≤ N) := h.preb
  have SB := Lib.hid h.shn
  have HE : Hid ((N : Int) - pre (fun t => (s.T t).sh) 9 = slack N s.T) := by show _ = _; rw [pre_nine _ (by rw [h.inv.z]; rfl)]; rfl
  have HO : Hid (∀ t, (s.T t).i = false → (s.T t).sh = 0) := fun t ht => by rw [h.inv.out t ht]; rfl
  have H0 : Hid (pre (fun t => (s.T t).sh) 1 = 0) := by show 0 + (s.T 0).sh = 0; rw [h.inv.z]; rfl
  clear h
  go_enter Try.func13, Try.ntmps13
  go_wp2_with fail
  go_loopg [3, 4] 8 (fun r vl vi wr => ∃ i : Nat, r + i = 9 ∧ 1 ≤ i ∧ vl = .int .i64 ((N : Int) - pre (fun t => (s.T t).sh) i) ∧ vi = .int .i64 i ∧ RF wr q lb N s ∧ Below w.heap.size w wr)
  case atStart => exact ⟨1, rfl, Nat.le_refl _, by rw [H0.out, Int.sub_zero], rfl, H.out, Below.refl _ _⟩
  case round =>
    clear H c0
    obtain ⟨i, hr, hi1, rfl, rfl, hk, hb⟩ := hrel
    have B := Lib.hid hb
    have HR := Lib.hid hr
    have H := Lib.hid hk
    clear hb hk
    by_cases hlt : i ≤ 8
    · have p1 := (PB.out i (by omega)).1
      have p2 := (PB.out i (by omega)).2
      have s1 := (SB.out i).1
      have s2 := (SB.out i).2
      have HP : Hid (pre (fun t => (s.T t).sh) (i + 1) = pre (fun t => (s.T t).sh) i + (s.T i).sh) := rfl
      have p3 := (PB.out (i + 1) (by omega)).2
      rw [HP.out] at p3
      have HO' := Lib.hid (HO.out i)
      obtain ⟨k0, k1, k2, k3⟩ := H.out.a4 i (by omega)
      generalize pre (fun t => (s.T t).sh) i = P at *
      have hI8 : (i : Int) ≤ 8 := by omega
      have hI1 : 1 ≤ (i : Int) := by omega
      clear hr
      obtain ⟨A, hA⟩ : ∃ A, s.T i = A := ⟨_, rfl⟩
      rw [hA] at k0 k1 k2 k3 HP HO' s1 s2 p3
      clear hA
      obtain ⟨ai, ar, aq, ac⟩ := A
      simp only at k0 k1 k2 k3 HO'
      cases ai with
      | true =>
        have SP := fun w => partR true ar aq ac w
        clear HO'
        generalize Acc.sh ⟨true, ar, aq, ac⟩ = sh at *
        have SP' := Lib.hid SP
        clear SP
        go_wp2_with fail
        refine (SP'.out _).mono ?_
        rintro e w2 ⟨rfl, hb2⟩
        have B2 : Hid (Below w.heap.size w w2) := B.out.trans (hb2.mono B.out.size)
        have H2 := Lib.hid (H.out.below hb2)
        clear hb2
        go_wp2_with fail
        go_roundg (8 - i)
        case measure => have := HR.out; omega
        case rel => exact ⟨i + 1, by omega, by omega, by rw [HP.out]; exact congrArg (Value.int .i64) (by omega), by go_num, H2.out, B2.out⟩
      | false =>
        have hz := HO'.out rfl
        rw [hz] at HP
        clear HO' hz s1 s2 p3
        go_wp2_with fail
        go_roundg (8 - i)
        case measure => have := HR.out; omega
        case rel => exact ⟨i + 1, by omega, by omega, by rw [HP.out, Int.add_zero], by go_num, H.out, B.out⟩
    · have HI : Hid (i = 9) := by show _ = _; omega
      clear hr hi1
      go_wp2_with fail
      go_ret
      exact ⟨by rw [← HE.out, ← HI.out]; rfl, B.out⟩
theorem wrongR (h : RF w q lb N s) (t r qq : Int) : Calls Try.prog 47 #[.pointer (some ⟨q, 0, none⟩), .int .i64 t, .int .i64 r, .int .i64 qq] w fun e w' => e = .returned (.bool (!decide (mayL N t r qq))) ∧ w = w' := by
  have c0 := h.c0
  by_cases hm : mayL N t r qq
  · rw [decide_eq_true hm]
    obtain ⟨h1, h2, h3, h4, h5⟩ : ¬ t < 1 ∧ ¬ 8 < t ∧ ¬ r < 0 ∧ ¬ qq < r ∧ ¬ (N : Int) < qq := by unfold mayL at hm; omega
    clear h hm
    go_enter Try.func47, Try.ntmps47
    go_wp2_with fail
    go_ret
    exact ⟨rfl, rfl⟩
  · rw [decide_eq_false hm]
    have hq : t < 1 ∨ (¬ t < 1 ∧ 8 < t) ∨ (¬ t < 1 ∧ ¬ 8 < t ∧ r < 0) ∨ (¬ t < 1 ∧ ¬ 8 < t ∧ ¬ r < 0 ∧ qq < r) ∨ (¬ t < 1 ∧ ¬ 8 < t ∧ ¬ r < 0 ∧ ¬ qq < r ∧ (N : Int) < qq) := by unfold mayL at hm; omega
    clear h hm
    rcases hq with h1 | ⟨h1, h2⟩ | ⟨h1, h2, h3⟩ | ⟨h1, h2, h3, h4⟩ | ⟨h1, h2, h3, h4, h5⟩
    all_goals
      go_enter Try.func47, Try.ntmps47
      go_wp2_with fail
      go_ret
      exact ⟨rfl, rfl⟩
theorem thereR (h : RF w q lb N s) (x : Nat) (hx : x < 4294967296) : Calls Try.prog 49 #[.pointer (some ⟨q, 0, none⟩), .int .u32 x] w fun e w' => e = .returned (.bool (decide (x < N))) ∧ w = w' := by
  have c0 := h.c0
  have n2 := h.n2
  have u1 : IntKind.u64.wrap (x : Int) = x := by simp [IntKind.wrap, IntKind.bits, IntKind.signed]; omega
  have u2 : IntKind.u64.wrap (N : Int) = N := by simp [IntKind.wrap, IntKind.bits, IntKind.signed]; omega
  clear h
  go_enter Try.func49, Try.ntmps49
  go_wp2_with fail
  go_ret
  exact ⟨rfl, rfl⟩
set_option maxRecDepth 100000 in
theorem roomR (h : RF w q lb N s) (n : Nat) (h1 : 1 ≤ n) (h8 : n ≤ 8) : Calls Try.prog 48 #[.pointer (some ⟨q, 0, none⟩), .int .i64 n] w fun e w' => e = .returned (.int .i64 (roomC N s.T n)) ∧ Below w.heap.size w w' := by
  have hn0 : n < 9 := by omega
  have h9 : (n : Int) < 9 := by omega
  obtain ⟨k0, k1, k2, k3⟩ := h.a4 n hn0
  have HS : Hid (∀ w1, RF w1 q lb N s → Calls Try.prog 13 #[.pointer (some ⟨q, 0, none⟩)] w1 fun e w' => e = .returned (.int .i64 (slack N s.T)) ∧ Below w1.heap.size w1 w') := fun w1 k => slackR k
  have HA : Hid (∀ a : Acc, Below w.heap.size w (w.alloc (.cells #[.bool a.i, .int .i64 a.r, .int .i64 a.q, .int .i64 a.c] 40)) ∧ RF (w.alloc (.cells #[.bool a.i, .int .i64 a.r, .int .i64 a.q, .int .i64 a.c] 40)) q lb N s) := fun a => by
    have hb : Below w.heap.size w (w.alloc (.cells #[.bool a.i, .int .i64 a.r, .int .i64 a.q, .int .i64 a.c] 40)) := (Below.refl _ _).alloc (Nat.le_refl _) _
    exact ⟨hb, h.below hb⟩
  unfold roomC
  generalize s.T n = A at *
  obtain ⟨ai, ar, aq, ac⟩ := A
  simp only at k0 k1 k2 k3 ⊢
  have HB := Lib.hid (HA.out ⟨ai, ar, aq, ac⟩)
  clear h HA
  by_cases hq : aq ≤ ac
  · rw [if_pos hq]
    go_enter Try.func48, Try.ntmps48
    go_wp2_with fail
    go_ret
    exact ⟨rfl, HB.out.1⟩
  · rw [if_neg hq]
    by_cases hr : ar ≤ ac
    · by_cases hs : slack N s.T = 0
      · rw [if_pos ⟨hr, hs⟩]
        rw [hs] at HS
        clear hs
        go_enter Try.func48, Try.ntmps48
        go_wp2_with fail
        refine (HS.out _ HB.out.2).mono ?_
        rintro e w2 ⟨rfl, hb2⟩
        have B2 : Hid (Below w.heap.size w w2) := HB.out.1.trans (hb2.mono HB.out.1.size)
        clear hb2
        go_wp2_with fail
        go_ret
        exact ⟨rfl, B2.out⟩
      · rw [if_neg (fun k => hs k.2)]
        have hsb : (slack N s.T == 0) = false := by simp; exact hs
        clear hs
        generalize slack N s.T = sl at *
        go_enter Try.func48, Try.ntmps48
        go_wp2_with fail
        refine (HS.out _ HB.out.2).mono ?_
        rintro e w2 ⟨rfl, hb2⟩
        have B2 : Hid (Below w.heap.size w w2) := HB.out.1.trans (hb2.mono HB.out.1.size)
        clear hb2
        go_wp2_with fail
        go_ret
        exact ⟨rfl, B2.out⟩
    · rw [if_neg (fun k => hr k.1)]
      go_enter Try.func48, Try.ntmps48
      go_wp2_with fail
      go_ret
      exact ⟨rfl, HB.out.1⟩
end
end Go.Proofs.Ytjgkochbfjlinaa
