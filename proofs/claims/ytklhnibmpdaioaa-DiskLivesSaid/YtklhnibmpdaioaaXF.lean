/-
  Contract of the document's disk: Write; and one more write in a row. Condition: it lies in memory.
-/
import Derived.Test.YtklhnibmpdaioaaXE
namespace Go.Proofs.Ytklhnibmpdaioaa
open Go.RowKit
theorem info92 : (Try.prog.info? 92).map (fun i => (i.zero, i.size, i.bytes)) = some (some (.agg #[.int .u32 0, .slice none 0 0, .bool false]), 3, 40) := by kernel_rfl
theorem XS_app {w : World} {s y : Nat} {b : Bool} {v : Value} (hv : TY w v (tx y)) (hs : s < 65536) (hy : y < 256) : ∀ {L : List (Nat × Nat × Bool)} {vs : List Value}, XS w L vs → XS w (L ++ [(s, y, b)]) (vs ++ [.int .u32 s, v, .bool b])
  | [], _, h => by rw [show _ = [] from h]; exact ⟨v, [], rfl, hv, hs, hy, rfl⟩
  | (a, z, e) :: r, _, h => by
    obtain ⟨u, vs', rfl, h1, h2, h3, h4⟩ := h
    exact ⟨u, _, rfl, h1, h2, h3, XS_app hv hs hy h4⟩
theorem XS_len {w : World} : ∀ {L : List (Nat × Nat × Bool)} {vs : List Value}, XS w L vs → vs.length = L.length * 3
  | [], _, h => by rw [show _ = [] from h]; rfl
  | (a, z, e) :: r, _, h => by
    obtain ⟨u, vs', rfl, h1, h2, h3, h4⟩ := h
    have := XS_len h4
    simp; omega
/-- One more write in a row. -/
theorem pushX {w : World} {lv v : Value} {L : List (Nat × Nat × Bool)} {vs : List Value} (hr : Rw w 92 3 lv L.length vs) (hx : XS w L vs) {s y : Nat} {b : Bool} (hv : TY w v (tx y)) (hs : s < 65536) (hy : y < 256) (hL : L.length ≤ 1000000) :
    ∃ x' k' w', (Builtin.append_ #[38, 38] 38 #[lv, .slice (some ⟨w.heap.size, 0, none⟩) 1 1]).run Try.prog (w.alloc (.cells #[.int .u32 s, v, .bool b] 92)) = .ok (.slice x' (L.length + 1) k') w' ∧
      (∃ vs', Rw w' 92 3 (.slice x' (L.length + 1) k') (L ++ [(s, y, b)]).length vs' ∧ XS w' (L ++ [(s, y, b)]) vs') ∧ Mods (fun j => lv.ownBlock = some j) w w' ∧ (∀ j, (Value.slice x' (L.length + 1) k').ownBlock = some j → lv.ownBlock = some j ∨ w.heap.size ≤ j) := by
  obtain ⟨i, hi, hz0, hz1, hz2⟩ := info_parts info92
  have hm : Below w.heap.size w (w.alloc (.cells #[.int .u32 s, v, .bool b] 92)) := (Below.refl _ _).alloc (Nat.le_refl _) _
  have hmax : (2000000 : Nat) ≤ maxLen := by decide
  have hr1 : Rw (w.alloc (.cells #[.int .u32 s, v, .bool b] 92)) 92 3 lv L.length vs := hr.mods (S := fun _ => False) (Mods.of_below hm) (fun _ _ => id)
  have hv1 : v.oneCell' = true := by obtain ⟨_, _, _, rfl, _⟩ := hv; rfl
  obtain ⟨v', w', hrun, r1, m1, a1⟩ := hr1.push (P := Try.prog) Try.underlying38 hi hz0 hz1 hz2 rfl (by decide) ⟨w.heap.size, 0, none⟩ 1 1 [.int .u32 s, v, .bool b] rfl (fun j u hj => by
      rw [addr_add, cell_of_row _ _ _ _ _ _ (heap_alloc_new _ _), Nat.zero_add]
      match j, hj with
      | 0, hj => simpa using hj
      | 1, hj => simpa using hj
      | 2, hj => simpa using hj) (fun u hu => by
      simp at hu
      rcases hu with rfl | rfl | rfl
      · rfl
      · exact hv1
      · rfl) (by omega) (by omega) (by decide)
  obtain ⟨x', k', rfl, _, _⟩ := r1.form
  have m2 : Mods (fun j => lv.ownBlock = some j) w w' := (Mods.of_below hm).trans m1 (fun _ h => .inl h)
  have hno : ∀ b' cs, w.heap[b']? = some (.cells cs 5 (0, 0)) → ¬ lv.ownBlock = some b' := fun b' cs hb => hr.ty hb (by decide)
  refine ⟨x', k', w', hrun, ⟨_, by rw [List.length_append]; exact r1, XS_app (hv.mods m2 hno) hs hy (hx.mods m2 hno)⟩, m2, fun j hj => ?_⟩
  rcases a1 with a1 | ⟨k, a1, a2⟩
  · rw [a1] at hj; exact .inl hj
  · rw [a1] at hj; injection hj with hj; subst hj; exact .inr (Nat.le_trans hm.size a2)
section
variable {w w' : World} {q N rb : Nat} {lv v : Value} {L : List (Nat × Nat × Bool)} {rg : List Value} {c p : Int} {d : Bool}
def XWr (w : World) (q N : Nat) (lv : Value) (L : List (Nat × Nat × Bool)) (rb : Nat) (rg : List Value) (c p : Int) (d : Bool) (r : Value) (e : Ending) (w' : World) : Prop :=
  ∃ lv', e = .returned r ∧ XD w' q N lv' L rb rg c p d ∧ Mods (Xt q lv) w w' ∧ ∀ j, lv'.ownBlock = some j → lv.ownBlock = some j ∨ w.heap.size ≤ j
/-- Another row of writes is the document's disk's. -/
theorem XD.row_set {L' : List (Nat × Nat × Bool)} {lv' : Value} (h : XD w q N lv L rb rg c p d) (hl : ∃ vs, Rw w 92 3 lv' L'.length vs ∧ XS w L' vs) :
    XD (w.setCell ⟨q, 1, none⟩ lv') q N lv' L' rb rg c p d ∧ Mods (fun k => k = q) w (w.setCell ⟨q, 1, none⟩ lv') := by
  have hm : Mods (fun k => k = q) w (w.setCell ⟨q, 1, none⟩ lv') := Mods.set _ _ _ rfl
  have ho : ∀ b cs t, w.heap[b]? = some (.cells cs t (0, 0)) → t ≠ 40 → b ≠ q := fun b cs t hb ht e => by
    rw [e, h.row] at hb; injection hb with hb; injection hb with _ e2 _; exact ht e2.symm
  obtain ⟨vs, hrw, hx⟩ := hl
  obtain ⟨t, ht, ht2⟩ := h.reg
  refine ⟨⟨h.n1, h.n2, heap_set h.row _ _, ⟨vs, hrw.mods hm (fun k hk => ?_), hx.mods hm (fun b cs hb => ho b cs 5 hb (by decide))⟩, ⟨t, (hm.block rb (Array.getElem?_eq_some_iff.1 ht).1 (ho rb _ t ht (by rcases ht2 with rfl | rfl <;> decide))).trans ht, ht2⟩, h.len⟩, hm⟩
  rcases hrw.2.2 with ⟨rfl, _⟩ | ⟨b', o, cap, cs, rfl, k2, _⟩
  · simp [Value.ownBlock] at hk
  · simp [Value.ownBlock] at hk
    subst hk
    exact ho _ _ 92 k2 (by decide)
/-- What a write makes of it. -/
theorem XD.pushed {w0 : World} (h : XD w0 q N lv L rb rg c p d) {s y : Nat} {b : Bool} (hb : Below w0.heap.size w0 w) (hv : TY w v (tx y)) (hs : s < 65536) (hy : y < 256) (hL : L.length ≤ 1000000) :
    ∃ x' k' w', (Builtin.append_ #[38, 38] 38 #[lv, .slice (some ⟨w.heap.size, 0, none⟩) 1 1]).run Try.prog (w.alloc (.cells #[.int .u32 s, v, .bool b] 92)) = .ok (.slice x' (L.length + 1) k') w' ∧
      (w.cell? ⟨q, 1, none⟩ = some lv ∧ (w.alloc (.cells #[.int .u32 s, v, .bool b] 92)).cell? ⟨q, 1, none⟩ = some lv) ∧ w'.frozen? ⟨q, 1, none⟩ = false ∧ w'.cell? ⟨q, 1, none⟩ = some lv ∧
      XD (w'.setCell ⟨q, 1, none⟩ (.slice x' (L.length + 1) k')) q N (.slice x' (L.length + 1) k') (L ++ [(s, y, b)]) rb rg c p d ∧ Mods (Xt q lv) w0 (w'.setCell ⟨q, 1, none⟩ (.slice x' (L.length + 1) k')) ∧ (∀ j, (Value.slice x' (L.length + 1) k').ownBlock = some j → lv.ownBlock = some j ∨ w0.heap.size ≤ j) := by
  have h1 := h.below hb
  obtain ⟨vs, hr, hx⟩ := h1.lst
  obtain ⟨x', k', w', run, rows, m, an⟩ := pushX (b := b) hr hx hv hs hy hL
  have hm : Below w.heap.size w (w.alloc (.cells #[.int .u32 s, v, .bool b] 92)) := (Below.refl _ _).alloc (Nat.le_refl _) _
  have h3 : XD w' q N (.slice none 0 0) [] rb rg c p d ∨ True := .inr trivial
  have hq : ¬ lv.ownBlock = some q := hr.ty h1.row (by decide)
  have hrow : w'.heap[q]? = _ := (m.block q h1.lt hq).trans h1.row
  obtain ⟨t, ht, ht2⟩ := h1.reg
  have hreg : w'.heap[rb]? = _ := (m.block rb (Array.getElem?_eq_some_iff.1 ht).1 (hr.ty ht (by rcases ht2 with rfl | rfl <;> decide))).trans ht
  have hm1 : Mods (fun k => k = q) w' (w'.setCell ⟨q, 1, none⟩ (.slice x' (L.length + 1) k')) := Mods.set _ _ _ rfl
  have ho : ∀ b cs t, w'.heap[b]? = some (.cells cs t (0, 0)) → t ≠ 40 → b ≠ q := fun b cs t hb ht e => by
    rw [e, hrow] at hb; injection hb with hb; injection hb with _ e2 _; exact ht e2.symm
  obtain ⟨vs', hr', hx'⟩ := rows
  refine ⟨x', k', w', run, ⟨h1.c1, (h1.below hm).c1⟩, by simp [World.frozen?, hrow], by rw [cell_of_row _ _ _ _ _ _ hrow]; rfl, ⟨h1.n1, h1.n2, heap_set hrow _ _, ⟨vs', hr'.mods hm1 (fun k hk => ?_), hx'.mods hm1 (fun b cs hb => ho b cs 5 hb (by decide))⟩, ⟨t, (hm1.block rb (Array.getElem?_eq_some_iff.1 hreg).1 (ho rb _ t hreg (by rcases ht2 with rfl | rfl <;> decide))).trans hreg, ht2⟩, h1.len⟩, ?_, fun j hj => (an j hj).imp id (fun h => Nat.le_trans hb.size h)⟩
  · rcases hr'.2.2 with ⟨e, _⟩ | ⟨b', o, cap, cs, e, k2, _⟩
    · rw [e] at hk; simp [Value.ownBlock] at hk
    · rw [e] at hk
      simp [Value.ownBlock] at hk
      subst hk
      exact ho _ _ 92 k2 (by decide)
  · exact ((Mods.of_below hb (S := Xt q lv)).trans m (fun j hj => .inl (.inr hj))).trans hm1 (fun j hj => .inl (.inl hj))
theorem writeX_err (h : XD w q N lv L rb rg c p d) (s : Nat) (hx : s < 4294967296) (x : Option Addr) (n k : Nat) (_hn : n ≤ 9223372036854775807) (he : d = true ∨ ¬ s < N ∨ n ≠ 512) :
    Calls Try.prog 51 #[.pointer (some ⟨q, 0, none⟩), .int .u32 s, .slice x n k] w fun e w' => e = .returned (.int .i64 (if d = true then 30 else if s < N then 3 else 31)) ∧ w = w' := by
  have c5 := h.c5
  have TH := Lib.hid (thereX h s hx)
  cases d with
  | true =>
    clear h he
    go_enter Try.func51, Try.ntmps51
    go_wp2_with fail
    go_ret
    exact ⟨rfl, rfl⟩
  | false =>
    by_cases hs : s < N
    · rw [decide_eq_true hs] at TH
      simp only [hs, if_true]
      have hn5 : ((n : Int) != 512) = true := by
        have : n ≠ 512 := by simpa [hs] using he
        simp; omega
      clear h he
      go_enter Try.func51, Try.ntmps51
      go_wp2_with (go_at_call 59; refine TH.out.mono ?_; rintro e w' ⟨rfl, rfl⟩)
      go_ret
      exact ⟨rfl, rfl⟩
    · rw [decide_eq_false hs] at TH
      simp only [hs, if_false]
      clear h he
      go_enter Try.func51, Try.ntmps51
      go_wp2_with (go_at_call 59; refine TH.out.mono ?_; rintro e w' ⟨rfl, rfl⟩)
      go_ret
      exact ⟨rfl, rfl⟩
theorem writeX_down (h : XD w q N lv L rb rg c 0 false) (s : Nat) (hs : s < N) (x : Option Addr) (k : Nat) :
    Calls Try.prog 51 #[.pointer (some ⟨q, 0, none⟩), .int .u32 s, .slice x 512 k] w (XCh w q N lv L rb rg c 0 true (.int .i64 30)) := by
  have c5 := h.c5
  have TH := Lib.hid (thereX h s (by have := h.n2; omega))
  rw [decide_eq_true hs] at TH
  have CH := Lib.hid (changeX_no h (.inr rfl))
  clear h hs
  go_enter Try.func51, Try.ntmps51
  go_wp2_with (go_at_call 59; refine TH.out.mono ?_; rintro e w' ⟨rfl, rfl⟩)
  refine CH.out.mono ?_
  rintro e w2 ⟨rfl, hx, hm⟩
  have HX := Lib.hid hx
  have HM := Lib.hid hm
  clear hx hm
  go_wp2_with fail
  go_ret
  exact ⟨rfl, HX.out, HM.out⟩
set_option maxRecDepth 100000 in
set_option maxHeartbeats 4000000 in
theorem writeX_ok (h : XD w q N lv L rb rg c p false) (s y : Nat) (hs : s < N) (hv : TX w v (tx y)) (hy : y < 256) (hL : L.length ≤ 1000000) (hc : 0 ≤ c) (hc2 : c ≤ 1000000) (hp : p = -1 ∨ 1 ≤ p) (hp2 : p ≤ 9223372036854775807) :
    Calls Try.prog 51 #[.pointer (some ⟨q, 0, none⟩), .int .u32 s, v] w (XWr w q N lv (L ++ [(s, y, false)]) rb rg (c + 1) (pl p) false (.int .i64 0)) := by
  have c5 := h.c5
  have n2 := h.n2
  have TH := Lib.hid (thereX h s (by omega))
  rw [decide_eq_true hs] at TH
  have CH := Lib.hid (changeX_ok h hc hc2 hp hp2)
  have hq : ∀ b cs, w.heap[b]? = some (.cells cs 5 (0, 0)) → ¬ b = q := fun b cs hb e => by
    rw [e, h.row] at hb; injection hb with hb; injection hb with _ e2 _; cases e2
  have HV : Hid (∀ w2, Mods (fun k => k = q) w w2 → TX w2.drew v (tx y)) := fun w2 m => (hv.mods m hq).heap rfl
  obtain ⟨bv, rfl, hg⟩ := hv
  rw [tx_len] at HV ⊢
  have HS : Hid (s < 65536 ∧ y < 256 ∧ L.length ≤ 1000000) := ⟨by omega, hy, hL⟩
  clear h hs hy hL hc hc2 hp hp2 hq hg n2
  go_enter Try.func51, Try.ntmps51
  go_wp2_with (go_at_call 59; refine TH.out.mono ?_; rintro e w' ⟨rfl, rfl⟩)
  refine CH.out.mono ?_
  rintro e w2 ⟨rfl, hx, hm⟩
  have X0 : Hid (XD w2.drew q N lv L rb rg (c + 1) (pl p) false) := hx.heap rfl
  have M0 : Hid (Mods (Xt q lv) w w2.drew) := Mods.alike (hm.mono (fun b hb => .inl (.inl hb))) rfl rfl rfl rfl
  have CP := Lib.hid (copyX (HV.out w2 hm))
  have c1d : w2.drew.cell? ⟨q, 1, none⟩ = some lv := X0.out.c1
  have PU : Hid (∀ w3 v3, Below w2.drew.heap.size w2.drew w3 → TY w3 v3 (tx y) → _) := fun w3 v3 hb ht => X0.out.pushed (b := false) hb ht HS.out.1 HS.out.2.1 HS.out.2.2
  clear hx hm HV CH TH
  go_wp2_with fail
  refine wp_region_held_drew (S := fun _ => True) (by kernel_rfl) trivial (fun hS => ?_)
  refine' wpAnyH_take (i := 0) ?h1x0p ?hsx0p ?hfx0p ?hrx0p ?hQx0p (Or.inl ⟨?hwx0p, ?hyx0p⟩) hS ?restx0p
  case h1x0p => (simp only [List.getElem?_toArray, List.getElem?_cons_zero]; rfl)
  case hsx0p => kernel_rfl
  case hfx0p => kernel_rfl
  case hrx0p => kernel_rfl
  case hQx0p => exact fun _ _ _ h => h
  case hwx0p => rfl
  case hyx0p =>
    intro W hW
    go_simp
    try with_reducible rfl
  simp only [Act.put, List.setIfInBounds_toArray, List.set_cons_succ, List.set_cons_zero]
  refine' wpAnyH_take (i := 1) ?h1x1p ?hsx1p ?hfx1p ?hrx1p ?hQx1p (Or.inl ⟨?hwx1p, ?hyx1p⟩) hS ?restx1p
  case h1x1p => (simp only [List.getElem?_toArray, List.getElem?_cons_succ, List.getElem?_cons_zero]; rfl)
  case hsx1p => kernel_rfl
  case hfx1p => kernel_rfl
  case hrx1p => kernel_rfl
  case hQx1p => exact fun _ _ _ h => h
  case hwx1p => rfl
  case hyx1p =>
    intro W hW
    go_simp
    try with_reducible rfl
  simp only [Act.put, List.setIfInBounds_toArray, List.set_cons_succ, List.set_cons_zero]
  refine' wpAnyH_take (i := 2) ?h1x2p ?hsx2p ?hfx2p ?hrx2p ?hQx2p (Or.inl ⟨?hwx2p, ?hyx2p⟩) hS ?restx2p
  case h1x2p => (simp only [List.getElem?_toArray, List.getElem?_cons_succ, List.getElem?_cons_zero]; rfl)
  case hsx2p => kernel_rfl
  case hfx2p => kernel_rfl
  case hrx2p => kernel_rfl
  case hQx2p => exact fun _ _ _ h => h
  case hwx2p => rfl
  case hyx2p =>
    intro W hW
    go_simp
    try with_reducible rfl
  simp only [Act.put, List.setIfInBounds_toArray, List.set_cons_succ, List.set_cons_zero]
  refine' wpAnyH_take (i := 3) ?h1x3p ?hsx3p ?hfx3p ?hrx3p ?hQx3p (Or.inl ⟨?hwx3p, ?hyx3p⟩) hS ?restx3p
  case h1x3p => (simp only [List.getElem?_toArray, List.getElem?_cons_succ, List.getElem?_cons_zero]; rfl)
  case hsx3p => kernel_rfl
  case hfx3p => kernel_rfl
  case hrx3p => kernel_rfl
  case hQx3p => exact fun _ _ _ h => h
  case hwx3p => rfl
  case hyx3p =>
    intro W hW
    go_simp
    try with_reducible rfl
  simp only [Act.put, List.setIfInBounds_toArray, List.set_cons_succ, List.set_cons_zero]
  refine' wpAnyH_take (i := 5) ?h1x5p ?hsx5p ?hfx5p ?hrx5p ?hQx5p (Or.inl ⟨?hwx5p, ?hyx5p⟩) hS ?restx5p
  case h1x5p => (simp only [List.getElem?_toArray, List.getElem?_cons_succ, List.getElem?_cons_zero]; rfl)
  case hsx5p => kernel_rfl
  case hfx5p => kernel_rfl
  case hrx5p => kernel_rfl
  case hQx5p => exact fun _ _ _ h => h
  case hwx5p => rfl
  case hyx5p =>
    intro W hW
    go_simp
    try with_reducible rfl
  simp only [Act.put, List.setIfInBounds_toArray, List.set_cons_succ, List.set_cons_zero]
  refine' wpAnyH_take (i := 6) ?h1x6p ?hsx6p ?hfx6p ?hrx6p ?hQx6p (Or.inl ⟨?hwx6p, ?hyx6p⟩) hS ?restx6p
  case h1x6p => (simp only [List.getElem?_toArray, List.getElem?_cons_succ, List.getElem?_cons_zero]; rfl)
  case hsx6p => kernel_rfl
  case hfx6p => kernel_rfl
  case hrx6p => kernel_rfl
  case hQx6p => exact fun _ _ _ h => h
  case hwx6p => rfl
  case hyx6p =>
    intro W hW
    go_simp
    try with_reducible rfl
  simp only [Act.put, List.setIfInBounds_toArray, List.set_cons_succ, List.set_cons_zero]
  refine wpAnyH_ready (rs := [4, 7]) (by kernel_rfl) (by simp) ?_
  refine' (AllReadyH.cons ?hoc4q (fun K hK => ?stc4q) (AllReadyH.cons ?hoc7q (fun K hK => ?stc7q) AllReadyH.nil))
  case hoc4q => (simp only [List.getElem?_toArray, List.getElem?_cons_succ, List.getElem?_cons_zero]; rfl)
  case hoc7q => (simp only [List.getElem?_toArray, List.getElem?_cons_succ, List.getElem?_cons_zero]; rfl)
  case stc4q =>
    have dd := c1d
    go_simp
    refine hK.out _ _ trivial (fun hHeld => ?_)
    clear hK K hHeld
    try simp only [Act.put, List.setIfInBounds_toArray, List.set_cons_succ, List.set_cons_zero]
    clear dd
    refine wpAnyH_ready (rs := [7]) (by kernel_rfl) (by simp) ?_
    refine' AllReadyH.cons ?hoc7a (fun K hK => ?stc7a) AllReadyH.nil
    case hoc7a => (simp only [List.getElem?_toArray, List.getElem?_cons_succ, List.getElem?_cons_zero]; rfl)
    go_simp
    refine (CP.out).mono ?_
    rintro e w3 ⟨v3, rfl, ht3, hb3⟩
    obtain ⟨x3, n3, k3, rfl⟩ : ∃ x3 n3 k3, v3 = .slice x3 n3 k3 := by obtain ⟨_, _, _, rfl, _⟩ := ht3; exact ⟨_, _, _, rfl⟩
    go_wp2_with fail
    refine hK.out _ _ trivial (fun hHeld => ?_)
    clear hK K hHeld
    try simp only [Act.put, List.setIfInBounds_toArray, List.set_cons_succ, List.set_cons_zero]
    obtain ⟨x5, k5, w5, run5, cell5, fz5, row5, xd5, md5, an5⟩ := PU.out w3 _ hb3 ht3
    have C3 := Lib.hid cell5
    have R5 := Lib.hid run5
    have Y5 := Lib.hid row5
    have Z5 := Lib.hid fz5
    have X5 := Lib.hid xd5
    have M5 := Lib.hid md5
    have A5 := Lib.hid an5
    clear ht3 hb3 run5 cell5 fz5 row5 xd5 md5 an5
    refine' wpAnyH_take (i := 8) ?h1x8a ?hsx8a ?hfx8a ?hrx8a ?hQx8a (Or.inl ⟨?hwx8a, ?hyx8a⟩) hS ?restx8a
    case h1x8a => (simp only [List.getElem?_toArray, List.getElem?_cons_succ, List.getElem?_cons_zero]; rfl)
    case hsx8a => kernel_rfl
    case hfx8a => kernel_rfl
    case hrx8a => kernel_rfl
    case hQx8a => exact fun _ _ _ h => h
    case hwx8a => rfl
    case hyx8a =>
      intro W hW
      go_simp
      try with_reducible rfl
    simp only [Act.put, List.setIfInBounds_toArray, List.set_cons_succ, List.set_cons_zero]
    refine wpAnyH_ready (rs := [9]) (by kernel_rfl) (by simp) ?_
    refine' AllReadyH.cons ?hoc9a (fun K hK => ?stc9a) AllReadyH.nil
    case hoc9a => (simp only [List.getElem?_toArray, List.getElem?_cons_succ, List.getElem?_cons_zero]; rfl)
    go_simp
    refine hK.out _ _ trivial (fun hHeld => ?_)
    clear hK K hHeld
    try simp only [Act.put, List.setIfInBounds_toArray, List.set_cons_succ, List.set_cons_zero]
    refine wpAnyH_ready (rs := [10]) (by kernel_rfl) (by simp) ?_
    refine' AllReadyH.cons ?hoc10a (fun K hK => ?stc10a) AllReadyH.nil
    case hoc10a => (simp only [List.getElem?_toArray, List.getElem?_cons_succ, List.getElem?_cons_zero]; rfl)
    refine step_app_run rfl _ _ 38 rfl rfl rfl rfl R5.out ?_
    refine hK.out _ _ trivial (fun hHeld => ?_)
    clear hK K hHeld
    try simp only [Act.put, List.setIfInBounds_toArray, List.set_cons_succ, List.set_cons_zero]
    refine' wpAnyH_take (i := 11) ?h1x11a ?hsx11a ?hfx11a ?hrx11a ?hQx11a (Or.inl ⟨?hwx11a, ?hyx11a⟩) hS ?restx11a
    case h1x11a => (simp only [List.getElem?_toArray, List.getElem?_cons_succ, List.getElem?_cons_zero]; rfl)
    case hsx11a => kernel_rfl
    case hfx11a => kernel_rfl
    case hrx11a => kernel_rfl
    case hQx11a => exact fun _ _ _ h => h
    case hwx11a => rfl
    case hyx11a =>
      intro W hW
      go_simp
      try with_reducible rfl
    simp only [Act.put, List.setIfInBounds_toArray, List.set_cons_succ, List.set_cons_zero]
    refine' wpAnyH_take (i := 12) ?h1x12a ?hsx12a ?hfx12a ?hrx12a ?hQx12a (Or.inl ⟨?hwx12a, ?hyx12a⟩) hS ?restx12a
    case h1x12a => (simp only [List.getElem?_toArray, List.getElem?_cons_succ, List.getElem?_cons_zero]; rfl)
    case hsx12a => kernel_rfl
    case hfx12a => kernel_rfl
    case hrx12a => kernel_rfl
    case hQx12a => exact fun _ _ _ h => h
    case hwx12a => rfl
    case hyx12a =>
      intro W hW
      go_simp
      try with_reducible rfl
    simp only [Act.put, List.setIfInBounds_toArray, List.set_cons_succ, List.set_cons_zero]
    refine wpAnyH_ready (rs := [13]) (by kernel_rfl) (by simp) ?_
    refine' AllReadyH.cons ?hoc13a (fun K hK => ?stc13a) AllReadyH.nil
    case hoc13a => (simp only [List.getElem?_toArray, List.getElem?_cons_succ, List.getElem?_cons_zero]; rfl)
    have dd := Y5.out
    have df := Z5.out
    go_simp
    refine hK.out _ _ trivial (fun hHeld => ?_)
    clear hK K hHeld
    try simp only [Act.put, List.setIfInBounds_toArray, List.set_cons_succ, List.set_cons_zero]
    clear dd df
    refine wpAnyH_done (by kernel_rfl) ?_ _
    go_wp2_with fail
    go_ret
    exact ⟨_, rfl, X5.out, M0.out.trans M5.out (fun _ h => .inl h), fun j hj => (A5.out j hj).imp id (fun h => Nat.le_trans M0.out.size h)⟩
  case stc7q =>
    go_simp
    refine (CP.out).mono ?_
    rintro e w3 ⟨v3, rfl, ht3, hb3⟩
    obtain ⟨x3, n3, k3, rfl⟩ : ∃ x3 n3 k3, v3 = .slice x3 n3 k3 := by obtain ⟨_, _, _, rfl, _⟩ := ht3; exact ⟨_, _, _, rfl⟩
    go_wp2_with fail
    refine hK.out _ _ trivial (fun hHeld => ?_)
    clear hK K hHeld
    try simp only [Act.put, List.setIfInBounds_toArray, List.set_cons_succ, List.set_cons_zero]
    obtain ⟨x5, k5, w5, run5, cell5, fz5, row5, xd5, md5, an5⟩ := PU.out w3 _ hb3 ht3
    have C3 := Lib.hid cell5
    have R5 := Lib.hid run5
    have Y5 := Lib.hid row5
    have Z5 := Lib.hid fz5
    have X5 := Lib.hid xd5
    have M5 := Lib.hid md5
    have A5 := Lib.hid an5
    clear ht3 hb3 run5 cell5 fz5 row5 xd5 md5 an5
    refine' wpAnyH_take (i := 8) ?h1x8b ?hsx8b ?hfx8b ?hrx8b ?hQx8b (Or.inl ⟨?hwx8b, ?hyx8b⟩) hS ?restx8b
    case h1x8b => (simp only [List.getElem?_toArray, List.getElem?_cons_succ, List.getElem?_cons_zero]; rfl)
    case hsx8b => kernel_rfl
    case hfx8b => kernel_rfl
    case hrx8b => kernel_rfl
    case hQx8b => exact fun _ _ _ h => h
    case hwx8b => rfl
    case hyx8b =>
      intro W hW
      go_simp
      try with_reducible rfl
    simp only [Act.put, List.setIfInBounds_toArray, List.set_cons_succ, List.set_cons_zero]
    refine wpAnyH_ready (rs := [4, 9]) (by kernel_rfl) (by simp) ?_
    refine' (AllReadyH.cons ?hoc4b (fun K hK => ?stc4b) (AllReadyH.cons ?hoc9b (fun K hK => ?stc9b) AllReadyH.nil))
    case hoc4b => (simp only [List.getElem?_toArray, List.getElem?_cons_succ, List.getElem?_cons_zero]; rfl)
    case hoc9b => (simp only [List.getElem?_toArray, List.getElem?_cons_succ, List.getElem?_cons_zero]; rfl)
    case stc4b =>
      have dd := C3.out.1
      go_simp
      refine hK.out _ _ trivial (fun hHeld => ?_)
      clear hK K hHeld
      try simp only [Act.put, List.setIfInBounds_toArray, List.set_cons_succ, List.set_cons_zero]
      clear dd
      refine wpAnyH_ready (rs := [9]) (by kernel_rfl) (by simp) ?_
      refine' AllReadyH.cons ?hoc9c (fun K hK => ?stc9c) AllReadyH.nil
      case hoc9c => (simp only [List.getElem?_toArray, List.getElem?_cons_succ, List.getElem?_cons_zero]; rfl)
      go_simp
      refine hK.out _ _ trivial (fun hHeld => ?_)
      clear hK K hHeld
      try simp only [Act.put, List.setIfInBounds_toArray, List.set_cons_succ, List.set_cons_zero]
      refine wpAnyH_ready (rs := [10]) (by kernel_rfl) (by simp) ?_
      refine' AllReadyH.cons ?hoc10c (fun K hK => ?stc10c) AllReadyH.nil
      case hoc10c => (simp only [List.getElem?_toArray, List.getElem?_cons_succ, List.getElem?_cons_zero]; rfl)
      refine step_app_run rfl _ _ 38 rfl rfl rfl rfl R5.out ?_
      refine hK.out _ _ trivial (fun hHeld => ?_)
      clear hK K hHeld
      try simp only [Act.put, List.setIfInBounds_toArray, List.set_cons_succ, List.set_cons_zero]
      refine' wpAnyH_take (i := 11) ?h1x11c ?hsx11c ?hfx11c ?hrx11c ?hQx11c (Or.inl ⟨?hwx11c, ?hyx11c⟩) hS ?restx11c
      case h1x11c => (simp only [List.getElem?_toArray, List.getElem?_cons_succ, List.getElem?_cons_zero]; rfl)
      case hsx11c => kernel_rfl
      case hfx11c => kernel_rfl
      case hrx11c => kernel_rfl
      case hQx11c => exact fun _ _ _ h => h
      case hwx11c => rfl
      case hyx11c =>
        intro W hW
        go_simp
        try with_reducible rfl
      simp only [Act.put, List.setIfInBounds_toArray, List.set_cons_succ, List.set_cons_zero]
      refine' wpAnyH_take (i := 12) ?h1x12c ?hsx12c ?hfx12c ?hrx12c ?hQx12c (Or.inl ⟨?hwx12c, ?hyx12c⟩) hS ?restx12c
      case h1x12c => (simp only [List.getElem?_toArray, List.getElem?_cons_succ, List.getElem?_cons_zero]; rfl)
      case hsx12c => kernel_rfl
      case hfx12c => kernel_rfl
      case hrx12c => kernel_rfl
      case hQx12c => exact fun _ _ _ h => h
      case hwx12c => rfl
      case hyx12c =>
        intro W hW
        go_simp
        try with_reducible rfl
      simp only [Act.put, List.setIfInBounds_toArray, List.set_cons_succ, List.set_cons_zero]
      refine wpAnyH_ready (rs := [13]) (by kernel_rfl) (by simp) ?_
      refine' AllReadyH.cons ?hoc13c (fun K hK => ?stc13c) AllReadyH.nil
      case hoc13c => (simp only [List.getElem?_toArray, List.getElem?_cons_succ, List.getElem?_cons_zero]; rfl)
      have dd := Y5.out
      have df := Z5.out
      go_simp
      refine hK.out _ _ trivial (fun hHeld => ?_)
      clear hK K hHeld
      try simp only [Act.put, List.setIfInBounds_toArray, List.set_cons_succ, List.set_cons_zero]
      clear dd df
      refine wpAnyH_done (by kernel_rfl) ?_ _
      go_wp2_with fail
      go_ret
      exact ⟨_, rfl, X5.out, M0.out.trans M5.out (fun _ h => .inl h), fun j hj => (A5.out j hj).imp id (fun h => Nat.le_trans M0.out.size h)⟩
    case stc9b =>
      go_simp
      refine hK.out _ _ trivial (fun hHeld => ?_)
      clear hK K hHeld
      try simp only [Act.put, List.setIfInBounds_toArray, List.set_cons_succ, List.set_cons_zero]
      refine wpAnyH_ready (rs := [4]) (by kernel_rfl) (by simp) ?_
      refine' AllReadyH.cons ?hoc4d (fun K hK => ?stc4d) AllReadyH.nil
      case hoc4d => (simp only [List.getElem?_toArray, List.getElem?_cons_succ, List.getElem?_cons_zero]; rfl)
      have dd := C3.out.2
      go_simp
      refine hK.out _ _ trivial (fun hHeld => ?_)
      clear hK K hHeld
      try simp only [Act.put, List.setIfInBounds_toArray, List.set_cons_succ, List.set_cons_zero]
      clear dd
      refine wpAnyH_ready (rs := [10]) (by kernel_rfl) (by simp) ?_
      refine' AllReadyH.cons ?hoc10d (fun K hK => ?stc10d) AllReadyH.nil
      case hoc10d => (simp only [List.getElem?_toArray, List.getElem?_cons_succ, List.getElem?_cons_zero]; rfl)
      refine step_app_run rfl _ _ 38 rfl rfl rfl rfl R5.out ?_
      refine hK.out _ _ trivial (fun hHeld => ?_)
      clear hK K hHeld
      try simp only [Act.put, List.setIfInBounds_toArray, List.set_cons_succ, List.set_cons_zero]
      refine' wpAnyH_take (i := 11) ?h1x11d ?hsx11d ?hfx11d ?hrx11d ?hQx11d (Or.inl ⟨?hwx11d, ?hyx11d⟩) hS ?restx11d
      case h1x11d => (simp only [List.getElem?_toArray, List.getElem?_cons_succ, List.getElem?_cons_zero]; rfl)
      case hsx11d => kernel_rfl
      case hfx11d => kernel_rfl
      case hrx11d => kernel_rfl
      case hQx11d => exact fun _ _ _ h => h
      case hwx11d => rfl
      case hyx11d =>
        intro W hW
        go_simp
        try with_reducible rfl
      simp only [Act.put, List.setIfInBounds_toArray, List.set_cons_succ, List.set_cons_zero]
      refine' wpAnyH_take (i := 12) ?h1x12d ?hsx12d ?hfx12d ?hrx12d ?hQx12d (Or.inl ⟨?hwx12d, ?hyx12d⟩) hS ?restx12d
      case h1x12d => (simp only [List.getElem?_toArray, List.getElem?_cons_succ, List.getElem?_cons_zero]; rfl)
      case hsx12d => kernel_rfl
      case hfx12d => kernel_rfl
      case hrx12d => kernel_rfl
      case hQx12d => exact fun _ _ _ h => h
      case hwx12d => rfl
      case hyx12d =>
        intro W hW
        go_simp
        try with_reducible rfl
      simp only [Act.put, List.setIfInBounds_toArray, List.set_cons_succ, List.set_cons_zero]
      refine wpAnyH_ready (rs := [13]) (by kernel_rfl) (by simp) ?_
      refine' AllReadyH.cons ?hoc13d (fun K hK => ?stc13d) AllReadyH.nil
      case hoc13d => (simp only [List.getElem?_toArray, List.getElem?_cons_succ, List.getElem?_cons_zero]; rfl)
      have dd := Y5.out
      have df := Z5.out
      go_simp
      refine hK.out _ _ trivial (fun hHeld => ?_)
      clear hK K hHeld
      try simp only [Act.put, List.setIfInBounds_toArray, List.set_cons_succ, List.set_cons_zero]
      clear dd df
      refine wpAnyH_done (by kernel_rfl) ?_ _
      go_wp2_with fail
      go_ret
      exact ⟨_, rfl, X5.out, M0.out.trans M5.out (fun _ h => .inl h), fun j hj => (A5.out j hj).imp id (fun h => Nat.le_trans M0.out.size h)⟩
end
end Go.Proofs.Ytklhnibmpdaioaa
