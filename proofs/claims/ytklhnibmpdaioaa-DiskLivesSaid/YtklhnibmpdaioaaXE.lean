/-
  Contracts of the document's disk: Sure, Read, SetReg, Flush, Write. Condition: it lies in memory.
-/
import Derived.Test.YtklhnibmpdaioaaXC
namespace Go.Proofs.Ytklhnibmpdaioaa
open Go.RowKit
section
variable {w w' : World} {q N rb : Nat} {lv v : Value} {L : List (Nat × Nat × Bool)} {rg : List Value} {c p : Int} {d : Bool}
def SuP (w : World) (o : Option Nat) (e : Ending) (w' : World) : Prop := ∃ v, e = .returned (.tuple #[v, .int .i64 0]) ∧ TY w' v (padT o) ∧ Below w.heap.size w w'
theorem sureX (h : XD w q N lv L rb rg c p d) (hL : L.length ≤ 1000000) (s : Nat) (hs : s < N) (u : Bool) : Calls Try.prog 24 #[.pointer (some ⟨q, 0, none⟩), .int .u32 s, .bool u] w (SuP w (lastX u s L)) := by
  have TH := Lib.hid (thereX h s (by have := h.n2; omega))
  rw [decide_eq_true hs] at TH
  have SH := Lib.hid (shownX h hL s u)
  clear h hL hs
  go_enter Try.func24, Try.ntmps24
  go_wp2_with (go_at_call 59; refine TH.out.mono ?_; rintro e w' ⟨rfl, rfl⟩)
  refine SH.out.mono ?_
  rintro e w2 ⟨v, rfl, ht, hb⟩
  have HT := Lib.hid ht
  have HB := Lib.hid hb
  clear ht hb
  go_wp2_with fail
  go_ret2
  exact ⟨v, rfl, HT.out, HB.out⟩
theorem sureX_no (h : XD w q N lv L rb rg c p d) (s : Nat) (hx : s < 4294967296) (hs : ¬ s < N) (u : Bool) : Calls Try.prog 24 #[.pointer (some ⟨q, 0, none⟩), .int .u32 s, .bool u] w fun e w' => e = .returned (.tuple #[.slice none 0 0, .int .i64 31]) ∧ w = w' := by
  have TH := Lib.hid (thereX h s hx)
  rw [decide_eq_false hs] at TH
  clear h hs
  go_enter Try.func24, Try.ntmps24
  go_wp2_with (go_at_call 59; refine TH.out.mono ?_; rintro e w' ⟨rfl, rfl⟩)
  go_ret2
  exact ⟨rfl, rfl⟩
theorem readX (h : XD w q N lv L rb rg c p false) (hL : L.length ≤ 1000000) (s : Nat) (hs : s < N) : Calls Try.prog 52 #[.pointer (some ⟨q, 0, none⟩), .int .u32 s] w (SuP w (lastX false s L)) := by
  have c5 := h.c5
  have SH := Lib.hid (sureX h hL s hs false)
  clear h hL hs
  go_enter Try.func52, Try.ntmps52
  go_wp2_with fail
  refine SH.out.mono ?_
  rintro e w2 ⟨v, rfl, ht, hb⟩
  have HT := Lib.hid ht
  have HB := Lib.hid hb
  clear ht hb
  go_wp2_with fail
  go_ret2
  exact ⟨v, rfl, HT.out, HB.out⟩
theorem readX_no (h : XD w q N lv L rb rg c p d) (s : Nat) (hx : s < 4294967296) (hs : d = true ∨ ¬ s < N) : Calls Try.prog 52 #[.pointer (some ⟨q, 0, none⟩), .int .u32 s] w fun e w' => e = .returned (.tuple #[.slice none 0 0, .int .i64 (if d = true then 30 else 31)]) ∧ w = w' := by
  have c5 := h.c5
  cases d with
  | true =>
    clear h
    go_enter Try.func52, Try.ntmps52
    go_wp2_with fail
    go_ret2
    exact ⟨rfl, rfl⟩
  | false =>
    have SH := Lib.hid (sureX_no h s hx (by simpa using hs) false)
    clear h hs
    go_enter Try.func52, Try.ntmps52
    go_wp2_with fail
    refine SH.out.mono ?_
    rintro e w2 ⟨rfl, rfl⟩
    go_wp2_with fail
    go_ret2
    exact ⟨rfl, rfl⟩
/-- The document's register is another one. -/
theorem XD.reg_set (h : XD w q N lv L rb rg c p d) {rb' : Nat} {rg' : List Value} {t : TypeId} (hr : w.heap[rb']? = some (.cells rg'.toArray t (0, 0))) (ht : t = 5 ∨ t = 44) (hl : rg'.length = 64) :
    XD (w.setCell ⟨q, 2, none⟩ (.slice (some ⟨rb', 0, none⟩) 64 64)) q N lv L rb' rg' c p d ∧ Mods (fun k => k = q) w (w.setCell ⟨q, 2, none⟩ (.slice (some ⟨rb', 0, none⟩) 64 64)) := by
  have hm : Mods (fun k => k = q) w (w.setCell ⟨q, 2, none⟩ (.slice (some ⟨rb', 0, none⟩) 64 64)) := Mods.set _ _ _ rfl
  have ho : ∀ b cs t, w.heap[b]? = some (.cells cs t (0, 0)) → t ≠ 40 → b ≠ q := fun b cs t hb ht e => by
    rw [e, h.row] at hb; injection hb with hb; injection hb with _ e2 _; exact ht e2.symm
  obtain ⟨vs, hrw, hx⟩ := h.lst
  refine ⟨⟨h.n1, h.n2, heap_set h.row _ _, ⟨vs, hrw.mods hm (fun k hk => ?_), hx.mods hm (fun b cs hb => ho b cs 5 hb (by decide))⟩, ⟨t, (hm.block rb' (Array.getElem?_eq_some_iff.1 hr).1 (ho rb' _ t hr (by rcases ht with rfl | rfl <;> decide))).trans hr, ht⟩, hl⟩, hm⟩
  rcases hrw.2.2 with ⟨rfl, _⟩ | ⟨b', o, cap, cs, rfl, k2, _⟩
  · simp [Value.ownBlock] at hk
  · simp [Value.ownBlock] at hk
    subst hk
    exact ho _ _ 92 k2 (by decide)
theorem setregX_no (h : XD w q N lv L rb rg c p d) (hd : d = true ∨ p = 0) (vv : Value) : Calls Try.prog 54 #[.pointer (some ⟨q, 0, none⟩), vv] w (XCh w q N lv L rb rg c p true (.int .i64 30)) := by
  have CH := Lib.hid (changeX_no h hd)
  clear h hd
  go_enter Try.func54, Try.ntmps54
  go_wp2_with fail
  refine CH.out.mono ?_
  rintro e w2 ⟨rfl, hx, hm⟩
  have HX := Lib.hid hx
  have HM := Lib.hid hm
  clear hx hm
  go_wp2_with fail
  go_ret
  exact ⟨rfl, HX.out, HM.out⟩
theorem setregX_ok (h : XD w q N lv L rb rg c p false) (hc : 0 ≤ c) (hc2 : c ≤ 1000000) (hp : p = -1 ∨ 1 ≤ p) (hp2 : p ≤ 9223372036854775807) {rb' : Nat} {rg' : List Value} {t : TypeId} (hr : w.heap[rb']? = some (.cells rg'.toArray t (0, 0))) (ht : t = 5 ∨ t = 44) (hl : rg'.length = 64) :
    Calls Try.prog 54 #[.pointer (some ⟨q, 0, none⟩), .slice (some ⟨rb', 0, none⟩) 64 64] w (XCh w q N lv L rb' rg' (c + 1) (pl p) false (.int .i64 0)) := by
  have CH := Lib.hid (changeX_ok h hc hc2 hp hp2)
  have hne : rb' ≠ q := fun e => by
    rw [e, h.row] at hr; injection hr with hr; injection hr with _ e2 _; rcases ht with rfl | rfl <;> cases e2
  have RS : Hid (∀ w2, XD w2 q N lv L rb rg (c + 1) (pl p) false → Mods (fun k => k = q) w w2 → XD (w2.setCell ⟨q, 2, none⟩ (.slice (some ⟨rb', 0, none⟩) 64 64)) q N lv L rb' rg' (c + 1) (pl p) false ∧ Mods (fun k => k = q) w (w2.setCell ⟨q, 2, none⟩ (.slice (some ⟨rb', 0, none⟩) 64 64))) := fun w2 k m => by
    obtain ⟨a, b⟩ := k.reg_set ((m.block rb' (Array.getElem?_eq_some_iff.1 hr).1 hne).trans hr) ht hl
    exact ⟨a, m.trans b (fun _ h => .inl h)⟩
  have FC : Hid (∀ w2, XD w2 q N lv L rb rg (c + 1) (pl p) false → w2.cell? ⟨q, 2, none⟩ = some (.slice (some ⟨rb, 0, none⟩) 64 64) ∧ w2.frozen? ⟨q, 2, none⟩ = false) := fun w2 k => ⟨k.c2, k.fz 2⟩
  clear h hc hc2 hp hp2 hr ht hl hne
  go_enter Try.func54, Try.ntmps54
  go_wp2_with fail
  refine CH.out.mono ?_
  rintro e w2 ⟨rfl, hx, hm⟩
  have R2 := Lib.hid (RS.out w2 hx hm)
  obtain ⟨d2, f2⟩ := FC.out w2 hx
  clear hx hm RS FC CH
  go_wp2_with fail
  go_ret
  exact ⟨rfl, R2.out.1, R2.out.2⟩
/-- Some of the first writes are sure. -/
def surL : Nat → List (Nat × Nat × Bool) → List (Nat × Nat × Bool)
  | 0, L => L
  | _ + 1, [] => []
  | n + 1, (s, y, _) :: r => (s, y, true) :: surL n r
theorem surL_len : ∀ (n : Nat) (L : List (Nat × Nat × Bool)), (surL n L).length = L.length
  | 0, _ => rfl
  | _ + 1, [] => rfl
  | n + 1, (s, y, b) :: r => by show (surL n r).length + 1 = _; rw [surL_len n r]; rfl
theorem surL_at : ∀ (n : Nat) {L : List (Nat × Nat × Bool)} {s y : Nat} {b : Bool}, L[n]? = some (s, y, b) → (surL n L)[n]? = some (s, y, b) ∧ surL (n + 1) L = (surL n L).set n (s, y, true)
  | 0, [], _, _, _, h => by simp at h
  | 0, (a, z, e) :: r, s, y, b, h => by
    simp at h
    obtain ⟨rfl, rfl, rfl⟩ := h
    exact ⟨rfl, by show (a, z, true) :: surL 0 r = _; rfl⟩
  | n + 1, [], _, _, _, h => by simp at h
  | n + 1, (a, z, e) :: r, s, y, b, h => by
    obtain ⟨h1, h2⟩ := surL_at n (L := r) (by simpa using h)
    refine ⟨by show ((a, z, true) :: surL n r)[n + 1]? = _; simpa using h1, ?_⟩
    show (a, z, true) :: surL (n + 1) r = ((a, z, true) :: surL n r).set (n + 1) (s, y, true)
    rw [h2]; rfl
theorem surL_all : ∀ (L : List (Nat × Nat × Bool)) (n : Nat), surL L.length L = crL (fun _ => true) n L
  | [], n => by cases n <;> rfl
  | (s, y, b) :: r, n => by
    show (s, y, true) :: surL r.length r = (if b = true then (s, y, true) :: crL _ n r else if (fun _ => true) n = true then (s, y, true) :: crL _ (n + 1) r else crL _ (n + 1) r)
    cases b with
    | true => rw [if_pos rfl, surL_all r n]
    | false => rw [if_neg (by decide), if_pos rfl, surL_all r (n + 1)]
theorem XS_set : ∀ {L : List (Nat × Nat × Bool)} {vs : List Value} {i s y : Nat} {b : Bool}, XS w L vs → L[i]? = some (s, y, b) → XS w (L.set i (s, y, true)) (vs.set (i * 3 + 2) (.bool true))
  | [], _, i, s, y, b, _, h => by simp at h
  | (a, z, e) :: r, vs, i, s, y, b, hw, h => by
    obtain ⟨v, vs', rfl, h1, h2, h3, h4⟩ := hw
    cases i with
    | zero =>
      simp at h
      obtain ⟨rfl, rfl, rfl⟩ := h
      exact ⟨v, vs', rfl, h1, h2, h3, h4⟩
    | succ i =>
      refine ⟨v, vs'.set (i * 3 + 2) (.bool true), ?_, h1, h2, h3, XS_set h4 (by simpa using h)⟩
      rw [show (i + 1) * 3 + 2 = i * 3 + 2 + 1 + 1 + 1 by omega]
      rfl
theorem Rw.set1 {e sz n b o cap j : Nat} {xs : List Value} {u : Value} (h : Rw w e sz (.slice (some ⟨b, o, none⟩) n cap) n xs) (hu : u.oneCell' = true) (hj : j < xs.length) : Rw (w.setCell ⟨b, o + j, none⟩ u) e sz (.slice (some ⟨b, o, none⟩) n cap) n (xs.set j u) := by
  obtain ⟨hl, h1, ⟨h2, _⟩ | ⟨b', o', cap', cs, h2, hg, h3, h4, h5, h6⟩⟩ := h
  · cases h2
  · simp only [Value.slice.injEq, Option.some.injEq, Addr.mk.injEq] at h2
    obtain ⟨⟨rfl, rfl, _⟩, _, rfl⟩ := h2
    refine ⟨by simpa using hl, fun z hz => ?_, .inr ⟨b, o, cap, cs.setIfInBounds (o + j) u, rfl, heap_set hg _ _, by simpa using h3, h4, h5, fun k z hk => ?_⟩⟩
    · rcases List.mem_or_eq_of_mem_set hz with hz | hz
      · exact h1 z hz
      · rw [hz]; exact hu
    · have hmul : n * sz ≤ cap * sz := Nat.mul_le_mul_right _ h4
      rw [List.getElem?_set] at hk
      rw [Array.getElem?_setIfInBounds]
      by_cases e2 : j = k
      · subst e2
        rw [if_pos rfl, if_pos (by omega)]
        rw [if_pos rfl] at hk
        rw [if_pos hj] at hk
        rw [hk]
      · rw [if_neg e2] at hk
        rw [if_neg (by omega)]
        exact h6 k z hk
theorem XD.sure1 {g o k : Nat} {i s y : Nat} {b : Bool} (h : XD w q N (.slice (some ⟨g, o, none⟩) L.length k) L rb rg c p d) (hi : L[i]? = some (s, y, b)) :
    XD (w.setCell ⟨g, o + i * 3 + 2, none⟩ (.bool true)) q N (.slice (some ⟨g, o, none⟩) L.length k) (L.set i (s, y, true)) rb rg c p d ∧ Mods (Xt q (.slice (some ⟨g, o, none⟩) L.length k)) w (w.setCell ⟨g, o + i * 3 + 2, none⟩ (.bool true)) := by
  obtain ⟨vs, hr, hx⟩ := h.lst
  obtain ⟨t, ht, ht2⟩ := h.reg
  have hil : i < L.length := (List.getElem?_eq_some_iff.1 hi).1
  have hm : Mods (fun j => j = g) w (w.setCell ⟨g, o + i * 3 + 2, none⟩ (.bool true)) := Mods.set _ _ _ rfl
  obtain ⟨cs, hg⟩ : ∃ cs, w.heap[g]? = some (.cells cs 92 (0, 0)) := by
    rcases hr.2.2 with ⟨h2, _⟩ | ⟨b', o', cap', cs, h2, hg, _⟩
    · cases h2
    · simp only [Value.slice.injEq, Option.some.injEq, Addr.mk.injEq] at h2
      obtain ⟨⟨rfl, rfl, _⟩, _, rfl⟩ := h2
      exact ⟨cs, hg⟩
  have ho : ∀ b cs t, w.heap[b]? = some (.cells cs t (0, 0)) → t ≠ 92 → b ≠ g := fun b cs t hb ht e => by
    rw [e, hg] at hb; injection hb with hb; injection hb with _ e2 _; exact ht e2.symm
  have hr' := hr.set1 (j := i * 3 + 2) (u := .bool true) rfl (by rw [hr.1]; omega)
  rw [← Nat.add_assoc] at hr'
  refine ⟨⟨h.n1, h.n2, (hm.block q h.lt (ho q _ 40 h.row (by decide))).trans h.row, ⟨vs.set (i * 3 + 2) (.bool true), by rw [List.length_set]; exact hr', XS_set (hx.mods hm (fun b cs hb => ho b cs 5 hb (by decide))) hi⟩, ⟨t, (hm.block rb (Array.getElem?_eq_some_iff.1 ht).1 (ho rb _ t ht (by rcases ht2 with rfl | rfl <;> decide))).trans ht, ht2⟩, h.len⟩, hm.mono (fun j hj => .inl (.inr (by simp [Value.ownBlock, hj])))⟩
theorem flushX_no (h : XD w q N lv L rb rg c p d) (hd : d = true ∨ p = 0) : Calls Try.prog 53 #[.pointer (some ⟨q, 0, none⟩)] w (XCh w q N lv L rb rg c p true (.int .i64 30)) := by
  have CH := Lib.hid (changeX_no h hd)
  obtain ⟨x, k, rfl, hk1, hk2⟩ := h.form
  have HK : Hid ((L.length : Int) ≤ 9223372036854775807) := by show _ ≤ _; unfold maxLen at hk2; omega
  clear h hd hk1 hk2
  go_enter Try.func53, Try.ntmps53
  go_wp2_with fail
  refine CH.out.mono ?_
  rintro e w2 ⟨rfl, hx, hm⟩
  have HX := Lib.hid hx
  have HM := Lib.hid hm
  have c1 := hx.c1
  clear hx hm CH
  go_wp2_with fail
  go_loopg [4] 0 (fun r v4 wr => v4 = .int .i64 0 ∧ w2 = wr)
  case atStart => exact ⟨rfl, rfl⟩
  case round =>
    obtain ⟨rfl, rfl⟩ := hrel
    by_cases h0 : (0 : Int) < L.length
    · go_wp2_with fail
      go_ret
      exact ⟨rfl, HX.out, HM.out⟩
    · go_wp2_with fail
      go_ret
      exact ⟨rfl, HX.out, HM.out⟩
def XTu (w : World) (q N : Nat) (lv : Value) (L : List (Nat × Nat × Bool)) (rb : Nat) (rg : List Value) (c p : Int) (d : Bool) (r : Value) (e : Ending) (w' : World) : Prop := e = .returned r ∧ XD w' q N lv L rb rg c p d ∧ Mods (Xt q lv) w w'
set_option maxRecDepth 100000 in
set_option maxHeartbeats 1000000 in
theorem flushX_ok (h : XD w q N lv L rb rg c p false) (hL : L.length ≤ 1000000) (hc : 0 ≤ c) (hc2 : c ≤ 1000000) (hp : p = -1 ∨ 1 ≤ p) (hp2 : p ≤ 9223372036854775807) : Calls Try.prog 53 #[.pointer (some ⟨q, 0, none⟩)] w (XTu w q N lv (crL (fun _ => true) 0 L) rb rg (c + 1) (pl p) false (.int .i64 0)) := by
  have CH := Lib.hid (changeX_ok h hc hc2 hp hp2)
  obtain ⟨x, k, rfl, hk1, hk2⟩ := h.form
  have hl2 : (L.length : Int) ≤ 1000000 := by omega
  rw [← surL_all L 0]
  generalize pl p = p' at *
  clear h hc hc2 hp hp2 hk1 hk2 hL
  go_enter Try.func53, Try.ntmps53
  go_wp2_with fail
  refine CH.out.mono ?_
  rintro e w2 ⟨rfl, hx, hm⟩
  have HX := Lib.hid hx
  have HM : Hid (Mods (Xt q (.slice x L.length k)) w w2) := hm.mono (fun b hb => .inl (.inl hb))
  have cc := hx.c1
  clear hx hm CH
  go_wp2_with fail
  go_loopg [4] L.length (fun r v4 wr => ∃ i : Nat, r + i = L.length ∧ v4 = .int .i64 i ∧ XD wr q N (.slice x L.length k) (surL i L) rb rg (c + 1) p' false ∧ Mods (Xt q (.slice x L.length k)) w wr)
  case atStart => exact ⟨0, by omega, rfl, HX.out, HM.out⟩
  case round =>
    clear HX HM cc
    obtain ⟨i, hr, rfl, hx, hm⟩ := hrel
    have HX := Lib.hid hx
    have HM := Lib.hid hm
    have HR := Lib.hid hr
    have c1 := hx.c1
    by_cases hi : i < L.length
    · obtain ⟨s, y, b, he⟩ : ∃ s y b, L[i]? = some (s, y, b) := ⟨_, _, _, List.getElem?_eq_getElem hi⟩
      obtain ⟨s1, s2⟩ := surL_at i he
      have hx' : XD wr q N (.slice x (surL i L).length k) (surL i L) rb rg (c + 1) p' false := by rw [surL_len]; exact hx
      obtain ⟨g, o, vv, rfl, d0, d1, d2, f2, _⟩ := hx'.at s1
      have HS := Lib.hid (hx'.sure1 s1)
      rw [surL_len, ← s2] at HS
      have hi2 : (i : Int) < L.length := by omega
      clear hr he s1 s2 hx hx' hm d0 d1
      go_wp2_with fail
      go_roundg (L.length - (i + 1))
      case measure => have := HR.out; omega
      case rel => exact ⟨i + 1, by have := HR.out; omega, by go_num, HS.out.1, HM.out.trans HS.out.2 (fun _ h => .inl h)⟩
    · have hz : i = L.length := by omega
      subst hz
      clear hr HR hi hx hm
      go_wp2_with fail
      go_ret
      exact ⟨rfl, HX.out, HM.out⟩
end
end Go.Proofs.Ytklhnibmpdaioaa
