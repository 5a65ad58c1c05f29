/-
  What a change makes of a field's accounts, and of the cells that hold them. Condition: none.
-/
import Derived.Test.YtjgkochbfjlinaaI
namespace Go.Proofs.Ytjgkochbfjlinaa
open Go.RowKit
theorem Acc.ext' {a b : Acc} (h1 : a.i = b.i) (h2 : a.r = b.r) (h3 : a.q = b.q) (h4 : a.c = b.c) : a = b := by cases a; cases b; simp_all
theorem updT_get (T : Nat → Acc) (t : Nat) : updT T t (T t) = T := by
  funext k; unfold updT; split
  · rename_i h; rw [h]
  · rfl
theorem updT_twice (T : Nat → Acc) (t : Nat) (a b : Acc) : updT (updT T t a) t b = updT T t b := by
  funext k; unfold updT; split <;> rfl
theorem slack_upd (N : Nat) (T : Nat → Acc) (t : Nat) (h1 : 1 ≤ t) (h8 : t ≤ 8) (a : Acc) : slack N (updT T t a) = slack N T + (T t).sh - a.sh := by
  unfold slack
  have := sum9_upd (fun k => (T k).sh) (fun k => (updT T t a k).sh) t h1 h8 (fun k hk => by simp only [updT_ne _ _ hk])
  simp only [updT_self] at this
  omega
/-- What a change of one tenant's account keeps. -/
theorem Inv.set {N : Nat} {f f' : Nat → Nat} {T : Nat → Acc} (h : Inv N f T) (t : Nat) (h1 : 1 ≤ t) (h8 : t ≤ 8) (a : Acc) (ho : a.i = false → a = a0) (hr : 0 ≤ a.r ∧ a.r ≤ a.q ∧ a.q ≤ N) (hc : 0 ≤ a.c ∧ a.c ≤ a.q)
    (hs : a.sh ≤ slack N T + (T t).sh) (hf : (cnt f' N : Int) = cnt f N - (T t).c + a.c) : Inv N f' (updT T t a) := by
  refine ⟨?_, fun k hk => ?_, fun k => ?_, fun k => ?_, ?_, ?_⟩
  · rw [updT_ne _ _ (by omega)]; exact h.z
  · by_cases e : k = t
    · subst e; rw [updT_self] at hk ⊢; exact ho hk
    · rw [updT_ne _ _ e] at hk ⊢; exact h.out k hk
  · by_cases e : k = t
    · subst e; rw [updT_self]; exact hr
    · rw [updT_ne _ _ e]; exact h.rq k
  · by_cases e : k = t
    · subst e; rw [updT_self]; exact hc
    · rw [updT_ne _ _ e]; exact h.cq k
  · have := sum9_upd (fun k => (T k).c) (fun k => (updT T t a k).c) t h1 h8 (fun k hk => by simp only [updT_ne _ _ hk])
    simp only [updT_self] at this
    rw [this, h.sum, hf]
  · rw [slack_upd N T t h1 h8]; omega
/-- An extent is held, or dropped, beside what is charged. -/
theorem Inv.times {N : Nat} {f f' : Nat → Nat} {T : Nat → Acc} (h : Inv N f T) (hf : cnt f' N = cnt f N) : Inv N f' T :=
  ⟨h.z, h.out, h.rq, h.cq, by rw [hf]; exact h.sum, h.sl⟩
theorem cnt_hold {f : Nat → Nat} {i N : Nat} (h : i < N) (hf : f i = 0) : cnt (upd f i (f i + 1)) N = cnt f N + 1 := by
  have := cnt_upd f i (f i + 1) N h
  rw [if_pos hf, if_neg (by omega)] at this
  omega
theorem cnt_more {f : Nat → Nat} {i N v : Nat} (h : i < N) (hf : f i ≠ 0) (hv : v ≠ 0) : cnt (upd f i v) N = cnt f N := by
  have := cnt_upd f i v N h
  rw [if_neg hf, if_neg hv] at this
  omega
theorem cnt_one {f : Nat → Nat} {i N : Nat} (h : i < N) (hf : f i ≠ 0) : cnt (upd f i 0) N + 1 = cnt f N := by
  have := cnt_upd f i 0 N h
  rw [if_neg hf, if_pos rfl] at this
  omega
theorem blk_set {w : World} {g t : Nat} {cs : Array Value} (h : w.heap[g]? = some (.cells cs t (0, 0))) (k : Nat) (v : Value) :
    (w.setCell ⟨g, k, none⟩ v).heap[g]? = some (.cells (cs.setIfInBounds k v) t (0, 0)) := heap_setCell_same _ _ _ _ _ _ h
theorem fC_set (rb : Nat) (T : Nat → Acc) (k : Nat) (v : Value) : (fC rb T).toArray.setIfInBounds (k + 1) v = (Value.pointer (some ⟨rb, 0, none⟩) :: (tC T).set k v).toArray := by
  simp [fC, List.setIfInBounds_toArray]
section
variable {w : World} {g rb mb wb N : Nat} {f : Nat → Nat} {T : Nat → Acc}
/-- A tenant's account is written. -/
theorem FD.blkA (h : FD w g rb mb wb N f T) (n : Nat) (hn : n < 9) (a : Acc) :
    ((((w.setCell ⟨g, 1 + n * 4, none⟩ (.bool a.i)).setCell ⟨g, 1 + n * 4 + 1, none⟩ (.int .i64 a.r)).setCell ⟨g, 1 + n * 4 + 2, none⟩ (.int .i64 a.q)).setCell ⟨g, 1 + n * 4 + 3, none⟩ (.int .i64 a.c)).heap[g]?
      = some (.cells (fC rb (updT T n a)).toArray 54 (0, 0)) := by
  rw [blk_set (blk_set (blk_set (blk_set h.blk _ _) _ _) _ _) _ _]
  rw [show 1 + n * 4 = 4 * n + 1 by omega, fC_set]
  rw [show 4 * n + 1 + 1 = (4 * n + 1) + 1 by omega, show 4 * n + 1 + 2 = (4 * n + 2) + 1 by omega, show 4 * n + 1 + 3 = (4 * n + 3) + 1 by omega]
  simp only [List.setIfInBounds_toArray, List.set_cons_succ]
  rw [tC_upd T n hn a]
  rfl
/-- A tenant's charge is written. -/
theorem FD.blkC (h : FD w g rb mb wb N f T) (n : Nat) (hn : n < 9) (c : Int) :
    (w.setCell ⟨g, 1 + n * 4 + 3, none⟩ (.int .i64 c)).heap[g]? = some (.cells (fC rb (updT T n ⟨(T n).i, (T n).r, (T n).q, c⟩)).toArray 54 (0, 0)) := by
  rw [blk_set h.blk, show 1 + n * 4 + 3 = (4 * n + 3) + 1 by omega, fC_set, tC_updc T n hn c]
  rfl
theorem FD.setA (h : FD w g rb mb wb N f T) (n : Nat) (hn : n < 9) (a : Acc) (hv : Inv N f (updT T n a)) :
    FD ((((w.setCell ⟨g, 1 + n * 4, none⟩ (.bool a.i)).setCell ⟨g, 1 + n * 4 + 1, none⟩ (.int .i64 a.r)).setCell ⟨g, 1 + n * 4 + 2, none⟩ (.int .i64 a.q)).setCell ⟨g, 1 + n * 4 + 3, none⟩ (.int .i64 a.c)) g rb mb wb N f (updT T n a)
      ∧ Mods (Ft g mb wb) w ((((w.setCell ⟨g, 1 + n * 4, none⟩ (.bool a.i)).setCell ⟨g, 1 + n * 4 + 1, none⟩ (.int .i64 a.r)).setCell ⟨g, 1 + n * 4 + 2, none⟩ (.int .i64 a.q)).setCell ⟨g, 1 + n * 4 + 3, none⟩ (.int .i64 a.c)) := by
  have hm : Mods (fun k => k = g) w ((((w.setCell ⟨g, 1 + n * 4, none⟩ (.bool a.i)).setCell ⟨g, 1 + n * 4 + 1, none⟩ (.int .i64 a.r)).setCell ⟨g, 1 + n * 4 + 2, none⟩ (.int .i64 a.q)).setCell ⟨g, 1 + n * 4 + 3, none⟩ (.int .i64 a.c)) :=
    (((Mods.set (S := fun k => k = g) w _ _ rfl).trans (Mods.set (S := fun k => k = g) _ _ _ rfl) (fun _ hb => .inl hb)).trans (Mods.set (S := fun k => k = g) _ _ _ rfl) (fun _ hb => .inl hb)).trans (Mods.set (S := fun k => k = g) _ _ _ rfl) (fun _ hb => .inl hb)
  exact ⟨⟨h.blkA n hn a, h.row.mods hm (fun e => h.ne1 e.symm) (fun e => h.ne2 e.symm) (fun e => h.ne3 e.symm), h.n2, hv⟩, hm.mono (fun b hb => .inl (.inl hb))⟩
end
end Go.Proofs.Ytjgkochbfjlinaa
