/-
  Contracts of package extent that only tell: Size, Times, share, Slack. Condition: the field lies in memory.
-/
import Derived.Test.YtjgkochbfjlinaaG
namespace Go.Proofs.Ytjgkochbfjlinaa
open Go.RowKit
theorem sizeF_nil (w : World) : Calls Try.prog 14 #[.pointer none] w fun e w' => e = .returned (.int .i64 0) ∧ w = w' := by
  go_enter Try.func14, Try.ntmps14
  go_wp2
  go_ret
  exact ⟨rfl, rfl⟩
section
variable {w : World} {g rb mb wb N : Nat} {f : Nat → Nat} {T : Nat → Acc}
theorem sizeF (h : FD w g rb mb wb N f T) : Calls Try.prog 14 #[.pointer (some ⟨g, 0, none⟩)] w fun e w' => e = .returned (.int .i64 N) ∧ w = w' := by
  have c0 := h.c0
  have H := Lib.hid h
  clear h
  go_enter Try.func14, Try.ntmps14
  go_wp2_with (go_at_call 38; refine (sizeB H.out.row).mono ?_; rintro e w' ⟨rfl, rfl⟩)
  go_ret
  exact ⟨rfl, rfl⟩
theorem timesF_nil (x : Int) (w : World) : Calls Try.prog 18 #[.pointer none, .int .u32 x] w fun e w' => e = .returned (.int .i64 0) ∧ w = w' := by
  go_enter Try.func18, Try.ntmps18
  go_wp2
  go_ret
  exact ⟨rfl, rfl⟩
theorem timesF (h : FD w g rb mb wb N f T) (x : Nat) (hx : x < 4294967296) : Calls Try.prog 18 #[.pointer (some ⟨g, 0, none⟩), .int .u32 x] w fun e w' => e = .returned (.int .i64 (f x)) ∧ w = w' := by
  have c0 := h.c0
  have H := Lib.hid (timesB h.row x (by omega) (by omega))
  have e : tm f (x : Int) = f x := by unfold tm; rw [if_pos (by omega)]; rfl
  rw [e] at H
  clear h e
  go_enter Try.func18, Try.ntmps18
  go_wp2_with (go_at_call 40; refine (H.out).mono ?_; rintro e w' ⟨rfl, rfl⟩)
  go_ret
  exact ⟨rfl, rfl⟩
theorem shareF (a : Acc) (w : World) : Calls Try.prog 36 #[.agg (aC a).toArray] w fun e w' => e = .returned (.int .i64 a.sh) ∧ Below w.heap.size w w' := by
  obtain ⟨i, r, q, c⟩ := a
  unfold aC Acc.sh
  simp only
  by_cases hrc : r < c
  · have e : max r c = c := by omega
    rw [e]
    go_enter Try.func36, Try.ntmps36
    go_wp2
    go_ret
    exact ⟨rfl, ((Below.refl _ _).alloc (Nat.le_refl _) _)⟩
  · have e : max r c = r := by omega
    rw [e]
    go_enter Try.func36, Try.ntmps36
    go_wp2
    go_ret
    exact ⟨rfl, ((Below.refl _ _).alloc (Nat.le_refl _) _)⟩
theorem info52 : (Try.prog.info? 52).map (·.size) = some 36 := by kernel_rfl
theorem idx52 (T : Nat → Acc) (i : Nat) (hi : i < 9) (w : World) : (Instr.index 52 (.agg (tC T).toArray) (.int .i64 (i : Int))).run Try.prog w = .ok (.agg (aC (T i)).toArray) w :=
  of_nine (p := fun i => (Instr.index 52 (.agg (tC T).toArray) (.int .i64 (i : Int))).run Try.prog w = .ok (.agg (aC (T i)).toArray) w)
    ⟨by kernel_rfl, by kernel_rfl, by kernel_rfl, by kernel_rfl, by kernel_rfl, by kernel_rfl, by kernel_rfl, by kernel_rfl, by kernel_rfl⟩ i hi
theorem FD.range (h : FD w g rb mb wb N f T) : w.rangeAt g 1 (tC T) := fun j v hv => by
  rw [h.cell, show 1 + j = j + 1 by omega]; exact hv
/-- The sum of the first tenants'. -/
def pre (h : Nat → Int) : Nat → Int
  | 0 => 0
  | n + 1 => pre h n + h n
theorem pre_nine (h : Nat → Int) (h0 : h 0 = 0) : pre h 9 = sum9 h := by unfold pre pre pre pre pre pre pre pre pre pre sum9; omega
theorem pre_mono (h : Nat → Int) (hn : ∀ t, 0 ≤ h t) (n k : Nat) : pre h n ≤ pre h (n + k) := by
  induction k with
  | zero => exact Int.le_refl _
  | succ k ih => have := hn (n + k); show _ ≤ pre h (n + k) + h (n + k); omega
theorem FD.shn (h : FD w g rb mb wb N f T) (t : Nat) : 0 ≤ (T t).sh ∧ (T t).sh ≤ N := by
  have := h.inv.rq t; have := h.inv.cq t; unfold Acc.sh; omega
theorem FD.preb (h : FD w g rb mb wb N f T) (i : Nat) (hi : i ≤ 9) : 0 ≤ pre (fun t => (T t).sh) i ∧ pre (fun t => (T t).sh) i ≤ N := by
  have h1 := pre_mono (fun t => (T t).sh) (fun t => (h.shn t).1) 0 i
  have h2 := pre_mono (fun t => (T t).sh) (fun t => (h.shn t).1) i (9 - i)
  rw [Nat.zero_add] at h1
  rw [show i + (9 - i) = 9 by omega, pre_nine _ (by rw [h.inv.z]; rfl)] at h2
  have h3 := h.inv.sl
  unfold slack at h3
  have : pre (fun t => (T t).sh) 0 = 0 := rfl
  omega
set_option maxRecDepth 100000 in
set_option maxHeartbeats 1000000 in
theorem slackF (h : FD w g rb mb wb N f T) : Calls Try.prog 12 #[.pointer (some ⟨g, 0, none⟩)] w fun e w' => e = .returned (.int .i64 (slack N T)) ∧ Below w.heap.size w w' := by
  have H := Lib.hid h
  have RG := Lib.hid h.range
  have I5 := Lib.hid info52
  have HT : Hid (∀ i : Nat, i < 9 → ∀ w, (Instr.index 52 (.agg (tC T).toArray) (.int .i64 (i : Int))).run Try.prog w = .ok (.agg (aC (T i)).toArray) w) := fun i hi w => idx52 T i hi w
  have n2 := h.n2
  have PB : Hid (∀ i : Nat, i ≤ 9 → 0 ≤ pre (fun t => (T t).sh) i ∧ pre (fun t => (T t).sh) i ≤ N) := h.preb
  have SB := Lib.hid h.shn
  have HE : Hid ((N : Int) - pre (fun t => (T t).sh) 9 = slack N T) := by show _ = _; rw [pre_nine _ (by rw [h.inv.z]; rfl)]; rfl
  clear h
  obtain ⟨A, hA⟩ : ∃ A, tC T = A := ⟨_, rfl⟩
  rw [hA] at HT RG
  have LA : Hid (A.length = 36) := by show _ = _; rw [← hA]; rfl
  clear hA
  go_enter Try.func12, Try.ntmps12
  go_wp2_with (first | (go_at_call 14; refine (sizeF H.out).mono ?_; rintro e w' ⟨rfl, rfl⟩) | refine wpList_load_mid rfl 52 (.tmp 12) rfl g 1 rfl A _ RG.out Try.underlying52 rfl (by rw [LA.out]; exact I5.out) ?_)
  go_loopg [3, 14] 9 (fun r vl vi wr => ∃ i : Nat, r + i = 9 ∧ vl = .int .i64 ((N : Int) - pre (fun t => (T t).sh) i) ∧ vi = .int .i64 i ∧ Below w.heap.size w wr)
  case atStart => exact ⟨0, rfl, by show Value.int .i64 _ = .int .i64 ((N : Int) - 0); rw [Int.sub_zero], rfl, Below.refl _ _⟩
  case round =>
    obtain ⟨i, hr, rfl, rfl, hb⟩ := hrel
    have B := Lib.hid hb
    have HR := Lib.hid hr
    have p1 := (PB.out i (by omega)).1
    have p2 := (PB.out i (by omega)).2
    clear hb
    by_cases hlt : i < 9
    · have hx := HT.out i hlt
      have s1 := (SB.out i).1
      have s2 := (SB.out i).2
      have HP : Hid (pre (fun t => (T t).sh) (i + 1) = pre (fun t => (T t).sh) i + (T i).sh) := rfl
      have p3 := (PB.out (i + 1) (by omega)).2
      rw [HP.out] at p3
      generalize pre (fun t => (T t).sh) i = P at *
      clear hr
      have SH := fun w => shareF (T i) w
      generalize (T i).sh = s at *
      obtain ⟨ai, ar, aq, ac, hT⟩ : ∃ (ai : Bool) (ar aq ac : Int), T i = ⟨ai, ar, aq, ac⟩ := ⟨_, _, _, _, rfl⟩
      rw [hT] at hx SH
      clear hT
      unfold aC at hx SH
      have SH' := Lib.hid SH
      clear SH
      go_wp2_with fail
      refine (SH'.out _).mono ?_
      rintro e w2 ⟨rfl, hb2⟩
      have B2 : Hid (Below w.heap.size w w2) := (B.out.alloc B.out.size _).trans (hb2.mono (by have := B.out.size; simp; omega))
      clear hb2
      go_wp2_with fail
      go_roundg (9 - (i + 1))
      case measure => have := HR.out; omega
      case rel => exact ⟨i + 1, by omega, by rw [HP.out]; exact congrArg (Value.int .i64) (by omega), by go_num, B2.out⟩
    · have HI : Hid (i = 9) := by show _ = _; omega
      clear hr
      go_wp2_with fail
      go_ret
      exact ⟨by rw [← HE.out, ← HI.out]; rfl, B.out⟩
end
end Go.Proofs.Ytjgkochbfjlinaa
