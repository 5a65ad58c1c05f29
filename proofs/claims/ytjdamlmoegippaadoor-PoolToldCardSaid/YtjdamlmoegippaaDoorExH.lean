/-
  Contracts of package extent that only tell: Size, Times, share, Slack. Condition: the field lies in memory.
-/
import Derived.Test.YtjdamlmoegippaaDoorExF
import Derived.Deep.MidRow
namespace Go.Proofs.YtjdamlmoegippaaDoor.ex
open Go.RowKit
/-- What a tenant may have, and has. -/
structure Acc where
  i : Bool
  r : Int
  q : Int
  c : Int
def a0 : Acc := ⟨false, 0, 0, 0⟩
/-- What is a tenant's, taken or not. -/
def Acc.sh (a : Acc) : Int := max a.r a.c
/-- Its cells. -/
def aC (a : Acc) : List Value := [.bool a.i, .int .i64 a.r, .int .i64 a.q, .int .i64 a.c]
/-- All tenants' cells. -/
def tC (T : Nat → Acc) : List Value := aC (T 0) ++ aC (T 1) ++ aC (T 2) ++ aC (T 3) ++ aC (T 4) ++ aC (T 5) ++ aC (T 6) ++ aC (T 7) ++ aC (T 8)
def updT (T : Nat → Acc) (t : Nat) (a : Acc) : Nat → Acc := fun k => if k = t then a else T k
theorem updT_self (T : Nat → Acc) (t : Nat) (a : Acc) : updT T t a t = a := if_pos rfl
theorem updT_ne (T : Nat → Acc) {t k : Nat} (a : Acc) (h : k ≠ t) : updT T t a k = T k := if_neg h
theorem of_nine {p : Nat → Prop} (h : p 0 ∧ p 1 ∧ p 2 ∧ p 3 ∧ p 4 ∧ p 5 ∧ p 6 ∧ p 7 ∧ p 8) (t : Nat) (ht : t < 9) : p t := by
  obtain ⟨h0, h1, h2, h3, h4, h5, h6, h7, h8⟩ := h
  match t, ht with
  | 0, _ => exact h0
  | 1, _ => exact h1
  | 2, _ => exact h2
  | 3, _ => exact h3
  | 4, _ => exact h4
  | 5, _ => exact h5
  | 6, _ => exact h6
  | 7, _ => exact h7
  | 8, _ => exact h8
theorem tC_at (T : Nat → Acc) (t : Nat) (ht : t < 9) : (tC T)[4 * t]? = some (.bool (T t).i) ∧ (tC T)[4 * t + 1]? = some (.int .i64 (T t).r) ∧ (tC T)[4 * t + 2]? = some (.int .i64 (T t).q) ∧ (tC T)[4 * t + 3]? = some (.int .i64 (T t).c) :=
  of_nine (p := fun t => (tC T)[4 * t]? = some (.bool (T t).i) ∧ (tC T)[4 * t + 1]? = some (.int .i64 (T t).r) ∧ (tC T)[4 * t + 2]? = some (.int .i64 (T t).q) ∧ (tC T)[4 * t + 3]? = some (.int .i64 (T t).c))
    ⟨⟨rfl, rfl, rfl, rfl⟩, ⟨rfl, rfl, rfl, rfl⟩, ⟨rfl, rfl, rfl, rfl⟩, ⟨rfl, rfl, rfl, rfl⟩, ⟨rfl, rfl, rfl, rfl⟩, ⟨rfl, rfl, rfl, rfl⟩, ⟨rfl, rfl, rfl, rfl⟩, ⟨rfl, rfl, rfl, rfl⟩, ⟨rfl, rfl, rfl, rfl⟩⟩ t ht
/-- A field's cells. -/
def fC (rb : Nat) (T : Nat → Acc) : List Value := .pointer (some ⟨rb, 0, none⟩) :: tC T
theorem tC_upd (T : Nat → Acc) (t : Nat) (ht : t < 9) (a : Acc) : (((((tC T).set (4 * t) (.bool a.i)).set (4 * t + 1) (.int .i64 a.r)).set (4 * t + 2) (.int .i64 a.q)).set (4 * t + 3) (.int .i64 a.c)) = tC (updT T t a) :=
  of_nine (p := fun t => (((((tC T).set (4 * t) (.bool a.i)).set (4 * t + 1) (.int .i64 a.r)).set (4 * t + 2) (.int .i64 a.q)).set (4 * t + 3) (.int .i64 a.c)) = tC (updT T t a))
    ⟨rfl, rfl, rfl, rfl, rfl, rfl, rfl, rfl, rfl⟩ t ht
theorem tC_updc (T : Nat → Acc) (t : Nat) (ht : t < 9) (c : Int) : (tC T).set (4 * t + 3) (.int .i64 c) = tC (updT T t ⟨(T t).i, (T t).r, (T t).q, c⟩) :=
  of_nine (p := fun t => (tC T).set (4 * t + 3) (.int .i64 c) = tC (updT T t ⟨(T t).i, (T t).r, (T t).q, c⟩))
    ⟨rfl, rfl, rfl, rfl, rfl, rfl, rfl, rfl, rfl⟩ t ht
/-- The sum of all tenants'. -/
def sum9 (h : Nat → Int) : Int := h 1 + h 2 + h 3 + h 4 + h 5 + h 6 + h 7 + h 8
theorem sum9_upd (h h' : Nat → Int) (t : Nat) (h1 : 1 ≤ t) (h8 : t ≤ 8) (he : ∀ k, k ≠ t → h' k = h k) : sum9 h' = sum9 h - h t + h' t := by
  unfold sum9
  have : t = 1 ∨ t = 2 ∨ t = 3 ∨ t = 4 ∨ t = 5 ∨ t = 6 ∨ t = 7 ∨ t = 8 := by omega
  rcases this with rfl | rfl | rfl | rfl | rfl | rfl | rfl | rfl
  · rw [he 2 (by omega), he 3 (by omega), he 4 (by omega), he 5 (by omega), he 6 (by omega), he 7 (by omega), he 8 (by omega)]; omega
  · rw [he 1 (by omega), he 3 (by omega), he 4 (by omega), he 5 (by omega), he 6 (by omega), he 7 (by omega), he 8 (by omega)]; omega
  · rw [he 1 (by omega), he 2 (by omega), he 4 (by omega), he 5 (by omega), he 6 (by omega), he 7 (by omega), he 8 (by omega)]; omega
  · rw [he 1 (by omega), he 2 (by omega), he 3 (by omega), he 5 (by omega), he 6 (by omega), he 7 (by omega), he 8 (by omega)]; omega
  · rw [he 1 (by omega), he 2 (by omega), he 3 (by omega), he 4 (by omega), he 6 (by omega), he 7 (by omega), he 8 (by omega)]; omega
  · rw [he 1 (by omega), he 2 (by omega), he 3 (by omega), he 4 (by omega), he 5 (by omega), he 7 (by omega), he 8 (by omega)]; omega
  · rw [he 1 (by omega), he 2 (by omega), he 3 (by omega), he 4 (by omega), he 5 (by omega), he 6 (by omega), he 8 (by omega)]; omega
  · rw [he 1 (by omega), he 2 (by omega), he 3 (by omega), he 4 (by omega), he 5 (by omega), he 6 (by omega), he 7 (by omega)]; omega
def slack (N : Nat) (T : Nat → Acc) : Int := (N : Int) - sum9 fun t => (T t).sh
/-- What holds of a field, whatever is asked of it. -/
structure Inv (N : Nat) (f : Nat → Nat) (T : Nat → Acc) : Prop where
  z : T 0 = a0
  out : ∀ t, (T t).i = false → T t = a0
  rq : ∀ t, 0 ≤ (T t).r ∧ (T t).r ≤ (T t).q ∧ (T t).q ≤ N
  cq : ∀ t, 0 ≤ (T t).c ∧ (T t).c ≤ (T t).q
  sum : sum9 (fun t => (T t).c) = cnt f N
  sl : 0 ≤ slack N T
/-- A field in memory. -/
structure FD (w : World) (g rb mb wb N : Nat) (f : Nat → Nat) (T : Nat → Acc) : Prop where
  blk : w.heap[g]? = some (.cells (fC rb T).toArray 84 (0, 0))
  row : BR w rb N mb wb f
  n2 : N ≤ 2048
  inv : Inv N f T
section
variable {w w' : World} {g rb mb wb N : Nat} {f : Nat → Nat} {T : Nat → Acc}
theorem FD.lt (h : FD w g rb mb wb N f T) : g < w.heap.size := (Array.getElem?_eq_some_iff.1 h.blk).1
theorem FD.n1 (h : FD w g rb mb wb N f T) : 1 ≤ N := h.row.n1
theorem FD.cell (h : FD w g rb mb wb N f T) (k : Nat) : w.cell? ⟨g, k, none⟩ = (fC rb T)[k]? := by rw [cell_of_row _ _ _ _ _ _ h.blk]; simp
theorem FD.c0 (h : FD w g rb mb wb N f T) : w.cell? ⟨g, 0, none⟩ = some (.pointer (some ⟨rb, 0, none⟩)) := by rw [h.cell]; rfl
theorem FD.at0 (h : FD w g rb mb wb N f T) (t : Nat) (ht : t < 9) : w.cell? ⟨g, 1 + t * 4, none⟩ = some (.bool (T t).i) := by
  rw [h.cell, show 1 + t * 4 = 4 * t + 1 by omega]; exact (tC_at T t ht).1
theorem FD.at1 (h : FD w g rb mb wb N f T) (t : Nat) (ht : t < 9) : w.cell? ⟨g, 1 + t * 4 + 1, none⟩ = some (.int .i64 (T t).r) := by
  rw [h.cell, show 1 + t * 4 + 1 = 4 * t + 1 + 1 by omega]; exact (tC_at T t ht).2.1
theorem FD.at2 (h : FD w g rb mb wb N f T) (t : Nat) (ht : t < 9) : w.cell? ⟨g, 1 + t * 4 + 2, none⟩ = some (.int .i64 (T t).q) := by
  rw [h.cell, show 1 + t * 4 + 2 = 4 * t + 2 + 1 by omega]; exact (tC_at T t ht).2.2.1
theorem FD.at3 (h : FD w g rb mb wb N f T) (t : Nat) (ht : t < 9) : w.cell? ⟨g, 1 + t * 4 + 3, none⟩ = some (.int .i64 (T t).c) := by
  rw [h.cell, show 1 + t * 4 + 3 = 4 * t + 3 + 1 by omega]; exact (tC_at T t ht).2.2.2
theorem FD.fz (h : FD w g rb mb wb N f T) (k : Nat) : w.frozen? ⟨g, k, none⟩ = false := by simp [World.frozen?, h.blk]
theorem FD.ne1 (h : FD w g rb mb wb N f T) : g ≠ rb := by
  intro e
  have h1 := h.row.row
  rw [← e, h.blk] at h1
  injection h1 with h1
  injection h1 with _ h1
  cases h1
theorem FD.ne2 (h : FD w g rb mb wb N f T) : g ≠ mb := by
  intro e
  obtain ⟨es, c, h1⟩ := h.row.map.isMap
  rw [← e, h.blk] at h1
  cases h1
theorem FD.ne3 (h : FD w g rb mb wb N f T) : g ≠ wb := by
  intro e
  obtain ⟨cs, wd, h1, _⟩ := h.row.wds
  rw [← e, h.blk] at h1
  injection h1 with h1
  injection h1 with _ h1
  cases h1
theorem FD.mods {S : Nat → Prop} (h : FD w g rb mb wb N f T) (hm : Mods S w w') (h0 : ¬ S g) (h1 : ¬ S rb) (h2 : ¬ S mb) (h3 : ¬ S wb) : FD w' g rb mb wb N f T :=
  ⟨(hm.block g h.lt h0).trans h.blk, h.row.mods hm h1 h2 h3, h.n2, h.inv⟩
theorem FD.below (h : FD w g rb mb wb N f T) (hb : Below w.heap.size w w') : FD w' g rb mb wb N f T := h.mods (S := fun _ => False) (Mods.of_below hb) id id id id
theorem FD.heap (h : FD w g rb mb wb N f T) (e : w'.heap = w.heap) : FD w' g rb mb wb N f T := ⟨by rw [e]; exact h.blk, h.row.heap e, h.n2, h.inv⟩
end
/-- What a change of a field may turn. -/
def Ft (g mb wb : Nat) : Nat → Prop := fun k => k = g ∨ k = mb ∨ k = wb
theorem sum9_le (h k : Nat → Int) (e : ∀ t, h t ≤ k t) : sum9 h ≤ sum9 k := by
  unfold sum9
  have := e 1; have := e 2; have := e 3; have := e 4; have := e 5; have := e 6; have := e 7; have := e 8
  omega
theorem sum9_nn (h : Nat → Int) (e : ∀ t, 0 ≤ h t) : 0 ≤ sum9 h := by
  unfold sum9
  have := e 1; have := e 2; have := e 3; have := e 4; have := e 5; have := e 6; have := e 7; have := e 8
  omega
theorem Inv.slack_le {N : Nat} {f : Nat → Nat} {T : Nat → Acc} (h : Inv N f T) : slack N T ≤ N := by
  have := sum9_nn (fun t => (T t).sh) (fun t => by have := (h.rq t).1; unfold Acc.sh; omega)
  unfold slack
  omega
/-- Where one may be charged, one is free. -/
theorem Inv.room {N : Nat} {f : Nat → Nat} {T : Nat → Acc} (h : Inv N f T) (t : Nat) (h1 : 1 ≤ t) (h8 : t ≤ 8) (hr : (T t).c < (T t).r ∨ slack N T ≠ 0) : cnt f N < N := by
  have hs := h.sl
  have h2 := h.sum
  have h3 := sum9_upd (fun k => (T k).c) (fun k => if k = t then (T t).sh else (T k).c) t h1 h8 (fun k hk => by simp [hk])
  simp only [if_true] at h3
  have h4 := sum9_le (fun k => if k = t then (T t).sh else (T k).c) (fun k => (T k).sh) (fun k => by
    by_cases hk : k = t
    · simp only [hk, if_true]; exact Int.le_refl _
    · simp only [hk, if_false]; unfold Acc.sh; omega)
  have h5 := sum9_le (fun k => (T k).c) (fun k => (T k).sh) (fun k => by unfold Acc.sh; omega)
  unfold slack at hs hr
  have h6 : (T t).c ≤ (T t).sh := by unfold Acc.sh; omega
  have h7 : (T t).c < (T t).r → (T t).c < (T t).sh := fun e => by unfold Acc.sh; omega
  rcases hr with hr | hr
  · have := h7 hr; omega
  · omega
end Go.Proofs.YtjdamlmoegippaaDoor.ex
namespace Go.Proofs.YtjdamlmoegippaaDoor.ex
open Go.RowKit
section
variable {w : World} {g rb mb wb N : Nat} {f : Nat → Nat} {T : Nat → Acc}
theorem sizeF (h : FD w g rb mb wb N f T) : Calls Tryd.prog 24 #[.pointer (some ⟨g, 0, none⟩)] w fun e w' => e = .returned (.int .i64 N) ∧ w = w' := by
  have c0 := h.c0
  have H := Lib.hid h
  clear h
  go_enter Tryd.func24, Tryd.ntmps24
  go_wp2_with (go_at_call 49; refine (sizeB H.out.row).mono ?_; rintro e w' ⟨rfl, rfl⟩)
  go_ret
  exact ⟨rfl, rfl⟩
theorem shareF (a : Acc) (w : World) : Calls Tryd.prog 41 #[.agg (aC a).toArray] w fun e w' => e = .returned (.int .i64 a.sh) ∧ Below w.heap.size w w' := by
  obtain ⟨i, r, q, c⟩ := a
  unfold aC Acc.sh
  simp only
  by_cases hrc : r < c
  · have e : max r c = c := by omega
    rw [e]
    go_enter Tryd.func41, Tryd.ntmps41
    go_wp2
    go_ret
    exact ⟨rfl, ((Below.refl _ _).alloc (Nat.le_refl _) _)⟩
  · have e : max r c = r := by omega
    rw [e]
    go_enter Tryd.func41, Tryd.ntmps41
    go_wp2
    go_ret
    exact ⟨rfl, ((Below.refl _ _).alloc (Nat.le_refl _) _)⟩
theorem info52 : (Tryd.prog.info? 82).map (·.size) = some 36 := by kernel_rfl
theorem idx52 (T : Nat → Acc) (i : Nat) (hi : i < 9) (w : World) : (Instr.index 82 (.agg (tC T).toArray) (.int .i64 (i : Int))).run Tryd.prog w = .ok (.agg (aC (T i)).toArray) w :=
  of_nine (p := fun i => (Instr.index 82 (.agg (tC T).toArray) (.int .i64 (i : Int))).run Tryd.prog w = .ok (.agg (aC (T i)).toArray) w)
    ⟨by kernel_rfl, by kernel_rfl, by kernel_rfl, by kernel_rfl, by kernel_rfl, by kernel_rfl, by kernel_rfl, by kernel_rfl, by kernel_rfl⟩ i hi
theorem FD.range (h : FD w g rb mb wb N f T) : w.rangeAt g 1 (tC T) := fun j v hv => by
  rw [h.cell, show 1 + j = j + 1 by omega]; exact hv
/-- The sum of the first tenants'. -/
def pre (h : Nat → Int) : Nat → Int
  | 0 => 0
  | n + 1 => pre h n + h n
theorem pre_nine (h : Nat → Int) (h0 : h 0 = 0) : pre h 9 = sum9 h := by unfold pre pre pre pre pre pre pre pre pre pre sum9; omega
theorem pre_mono (h : Nat → Int) (hn : ∀ t, 0 ≤ h t) (n k : Nat) : pre h n ≤ pre h (n + k) := by
  induction k with
  | zero => exact Int.le_refl _
  | succ k ih => have := hn (n + k); show _ ≤ pre h (n + k) + h (n + k); omega
theorem FD.shn (h : FD w g rb mb wb N f T) (t : Nat) : 0 ≤ (T t).sh ∧ (T t).sh ≤ N := by
  have := h.inv.rq t; have := h.inv.cq t; unfold Acc.sh; omega
theorem FD.preb (h : FD w g rb mb wb N f T) (i : Nat) (hi : i ≤ 9) : 0 ≤ pre (fun t => (T t).sh) i ∧ pre (fun t => (T t).sh) i ≤ N := by
  have h1 := pre_mono (fun t => (T t).sh) (fun t => (h.shn t).1) 0 i
  have h2 := pre_mono (fun t => (T t).sh) (fun t => (h.shn t).1) i (9 - i)
  rw [Nat.zero_add] at h1
  rw [show i + (9 - i) = 9 by omega, pre_nine _ (by rw [h.inv.z]; rfl)] at h2
  have h3 := h.inv.sl
  unfold slack at h3
  have : pre (fun t => (T t).sh) 0 = 0 := rfl
  omega
set_option maxRecDepth 100000 in
set_option maxHeartbeats 1000000 in
theorem slackF (h : FD w g rb mb wb N f T) : Calls Tryd.prog 19 #[.pointer (some ⟨g, 0, none⟩)] w fun e w' => e = .returned (.int .i64 (slack N T)) ∧ Below w.heap.size w w' := by
  have H := Lib.hid h
  have RG := Lib.hid h.range
  have I5 := Lib.hid info52
  have HT : Hid (∀ i : Nat, i < 9 → ∀ w, (Instr.index 82 (.agg (tC T).toArray) (.int .i64 (i : Int))).run Tryd.prog w = .ok (.agg (aC (T i)).toArray) w) := fun i hi w => idx52 T i hi w
  have n2 := h.n2
  have PB : Hid (∀ i : Nat, i ≤ 9 → 0 ≤ pre (fun t => (T t).sh) i ∧ pre (fun t => (T t).sh) i ≤ N) := h.preb
  have SB := Lib.hid h.shn
  have HE : Hid ((N : Int) - pre (fun t => (T t).sh) 9 = slack N T) := by show _ = _; rw [pre_nine _ (by rw [h.inv.z]; rfl)]; rfl
  clear h
  obtain ⟨A, hA⟩ : ∃ A, tC T = A := ⟨_, rfl⟩
  rw [hA] at HT RG
  have LA : Hid (A.length = 36) := by show _ = _; rw [← hA]; rfl
  clear hA
  go_enter Tryd.func19, Tryd.ntmps19
  go_wp2_with (first | (go_at_call 24; refine (sizeF H.out).mono ?_; rintro e w' ⟨rfl, rfl⟩) | refine wpList_load_mid rfl 82 (.tmp 12) rfl g 1 rfl A _ RG.out Tryd.underlying82 rfl (by rw [LA.out]; exact I5.out) ?_)
  go_loopg [3, 14] 9 (fun r vl vi wr => ∃ i : Nat, r + i = 9 ∧ vl = .int .i64 ((N : Int) - pre (fun t => (T t).sh) i) ∧ vi = .int .i64 i ∧ Below w.heap.size w wr)
  case atStart => exact ⟨0, rfl, by show Value.int .i64 _ = .int .i64 ((N : Int) - 0); rw [Int.sub_zero], rfl, Below.refl _ _⟩
  case round =>
    obtain ⟨i, hr, rfl, rfl, hb⟩ := hrel
    have B := Lib.hid hb
    have HR := Lib.hid hr
    have p1 := (PB.out i (by omega)).1
    have p2 := (PB.out i (by omega)).2
    clear hb
    by_cases hlt : i < 9
    · have hx := HT.out i hlt
      have s1 := (SB.out i).1
      have s2 := (SB.out i).2
      have HP : Hid (pre (fun t => (T t).sh) (i + 1) = pre (fun t => (T t).sh) i + (T i).sh) := rfl
      have p3 := (PB.out (i + 1) (by omega)).2
      rw [HP.out] at p3
      generalize pre (fun t => (T t).sh) i = P at *
      clear hr
      have SH := fun w => shareF (T i) w
      generalize (T i).sh = s at *
      obtain ⟨ai, ar, aq, ac, hT⟩ : ∃ (ai : Bool) (ar aq ac : Int), T i = ⟨ai, ar, aq, ac⟩ := ⟨_, _, _, _, rfl⟩
      rw [hT] at hx SH
      clear hT
      unfold aC at hx SH
      have SH' := Lib.hid SH
      clear SH
      go_wp2_with fail
      refine (SH'.out _).mono ?_
      rintro e w2 ⟨rfl, hb2⟩
      have B2 : Hid (Below w.heap.size w w2) := (B.out.alloc B.out.size _).trans (hb2.mono (by have := B.out.size; simp; omega))
      clear hb2
      go_wp2_with fail
      go_roundg (9 - (i + 1))
      case measure => have := HR.out; omega
      case rel => exact ⟨i + 1, by omega, by rw [HP.out]; exact congrArg (Value.int .i64) (by omega), by go_num, B2.out⟩
    · have HI : Hid (i = 9) := by show _ = _; omega
      clear hr
      go_wp2_with fail
      go_ret
      exact ⟨by rw [← HE.out, ← HI.out]; rfl, B.out⟩
end
end Go.Proofs.YtjdamlmoegippaaDoor.ex
