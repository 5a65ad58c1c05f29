/-
  Contracts of the functions that the statements of package super go through: the head that bytes are. Condition: the slice reads as bytes.
-/
import Derived.Test.YtplffbpnjnbolaaSuB
import Derived.Test.YtplffbpnjnbolaaSuR
namespace Go.Proofs.Ytplffbpnjnbolaa
open Go.RowKit
theorem step_copy_run {P : Program} {ops : Array Oper} {o : Oper} {a : Act} {w : World} {K : Act → World → Prop} {Q : Exit → Act → World → Prop} {E : Prop} (hgd : o.guard = none) (d s : Operand) (dT sT : TypeId)
    (ho : o.op = .call { callee := .builtin .copy, args := #[d, s], argTypes := #[dT, sT] }) (hty : o.type = 3) {x y v : Value} {w' : World} (hd : a.eval d = x) (hs : a.eval s = y) (hr : (Builtin.copy_ #[dT, sT] 3 #[x, y]).run P w = .ok v w')
    (hK : K (a.put o.dst v) w') : if Region.wanted o (yielded ops a.tmps) = true then Oper.wp P o a w K Q else E := by
  have hw : Region.wanted o (yielded ops a.tmps) = true := by simp [Region.wanted, hgd]
  rw [if_pos hw]
  unfold Oper.wp
  simp [execOp, ho, hty, resolve, invoke, builtin, hd, hs, hr, Result.andThen]
  exact hK
theorem row_kept {W W' : World} {g k : Nat} {o : Obj} (hg : W.grownBy W' (some g)) (h : W.heap[k]? = some o) (hne : k ≠ g) : W'.heap[k]? = some o :=
  (hg.block k (blk_lt h) (fun e => hne (by cases e; rfl))).trans h
/-! ### The head that bytes are -/
def pt (xs : List Int) (o n : Nat) : List Int := (xs.drop o).take n
def H0 : Hd := ⟨0, 0, false, 0, zs 32⟩
def hR (xs : List Int) : Hd := ⟨numI (pt xs 8 8), numI (pt xs 16 8), numI (pt xs 24 8) == 1, numI (pt xs 32 4), pt xs 36 32⟩
def hRe (xs : List Int) : Int := if xs.length = 512 ∧ (hR xs).may ∧ hW (hR xs) = xs then 0 else 3
def hRv (xs : List Int) : Hd := if hRe xs = 0 then hR xs else H0
def ReadHP (w : World) (xs : List Int) (e : Ending) (w' : World) : Prop := e = .returned (.tuple #[.agg (hcells (hRv xs)), .int .i64 (hRe xs)]) ∧ Below w.heap.size w w'
theorem pt_len (xs : List Int) (o n : Nat) (h : o + n ≤ xs.length) : (pt xs o n).length = n := part_len xs o n h
theorem pt_byt {xs : List Int} (h : Byt xs) (o n : Nat) : Byt (pt xs o n) := (h.drop o).take n
theorem H0_ok : H0.ok := ⟨⟨by decide, by decide⟩, ⟨by decide, by decide⟩, ⟨by decide, by decide⟩, zs_byt _, zs_len _⟩
theorem num64 {p : List Int} (hp : Byt p) (hl : p.length = 8) : 0 ≤ numI p ∧ numI p ≤ 18446744073709551615 := by
  have := numI_bd 8 p hl hp
  have e : (256 : Int) ^ 8 = 18446744073709551616 := by decide
  omega
theorem num32 {p : List Int} (hp : Byt p) (hl : p.length = 4) : 0 ≤ numI p ∧ numI p ≤ 4294967295 := by
  have := numI_bd 4 p hl hp
  have e : (256 : Int) ^ 4 = 4294967296 := by decide
  omega
theorem hR_ok {xs : List Int} (h : Byt xs) (hl : xs.length = 512) : (hR xs).ok :=
  ⟨num64 (pt_byt h _ _) (pt_len _ _ _ (by omega)), num64 (pt_byt h _ _) (pt_len _ _ _ (by omega)), num32 (pt_byt h _ _) (pt_len _ _ _ (by omega)), pt_byt h _ _, pt_len _ _ _ (by omega)⟩
theorem hRv_ok {xs : List Int} (h : Byt xs) : (hRv xs).ok := by
  unfold hRv
  by_cases hc : xs.length = 512 ∧ (hR xs).may ∧ hW (hR xs) = xs
  · rw [if_pos (by unfold hRe; rw [if_pos hc])]; exact hR_ok h hc.1
  · rw [if_neg (by unfold hRe; rw [if_neg hc]; decide)]; exact H0_ok
theorem readHP_no {w w' : World} {xs : List Int} (h : ¬ (xs.length = 512 ∧ (hR xs).may ∧ hW (hR xs) = xs)) (hb : Below w.heap.size w w') : ReadHP w xs (.returned (.tuple #[.agg (hcells H0), .int .i64 3])) w' := by
  have e1 : hRe xs = 3 := by unfold hRe; rw [if_neg h]
  have e2 : hRv xs = H0 := by unfold hRv; rw [if_neg (by rw [e1]; decide)]
  unfold ReadHP
  rw [e1, e2]; exact ⟨rfl, hb⟩
theorem readHP_yes {w w' : World} {xs : List Int} (h : xs.length = 512 ∧ (hR xs).may ∧ hW (hR xs) = xs) (hb : Below w.heap.size w w') : ReadHP w xs (.returned (.tuple #[.agg (hcells (hR xs)), .int .i64 0])) w' := by
  have e1 : hRe xs = 0 := by unfold hRe; rw [if_pos h]
  have e2 : hRv xs = hR xs := by unfold hRv; rw [if_pos e1]
  unfold ReadHP
  rw [e1, e2]; exact ⟨rfl, hb⟩
theorem i29 {H : Hd} (h : H.z.length = 32) : (Try.prog.info? 29).map (·.size) = some (hcells H).size := by rw [hcells_size h]; kernel_rfl
theorem one_hcells (H : Hd) : (hcells H).all (·.oneCell') = true := by simp [hcells, bcells, Value.oneCell']
set_option maxRecDepth 100000 in
theorem z29 (w : World) : (zeroValue 29).run Try.prog w = .ok (.agg (hcells H0)) w := by kernel_rfl
set_option maxRecDepth 100000 in
theorem bld29 (w : World) : (Instr.build 29 #[]).run Try.prog w = .ok (.agg (hcells H0)) w := by kernel_rfl
set_option maxRecDepth 100000 in
theorem bld29c (a b : Int) (c : Bool) (w : World) : (Instr.build 29 #[(0, .int .u64 a), (1, .int .u64 b), (2, .bool c)]).run Try.prog w = .ok (.agg (hcells ⟨a, b, c, 0, zs 32⟩)) w := by kernel_rfl
theorem wpList_build3_run {ops : Array Oper} {rest : List Oper} {o : Oper} {a : Act} {w : World} {Q : Exit → Act → World → Prop} (hgd : o.guard = none) (t : TypeId) (i j k : Nat) (x y z : Operand)
    (ho : o.op = .build t #[(i, x), (j, y), (k, z)]) {u1 u2 u3 v : Value} (hx : a.eval x = u1) (hy : a.eval y = u2) (hz : a.eval z = u3)
    (hr : (Instr.build t #[(i, u1), (j, u2), (k, u3)]).run Try.prog w = .ok v w) (h : wpList Try.prog ops Q rest (a.put o.dst v) w) : wpList Try.prog ops Q (o :: rest) a w := by
  refine wpList_plain hgd fun K hK => ?_
  unfold Oper.wp execOp
  simp only [ho, Sem.run_bind, Sem.run_pure, Result.andThen_ok, List.map_toArray, List.map_cons, List.map_nil, hx, hy, hz, hr]
  exact hK _ _ h
set_option maxRecDepth 100000 in
set_option maxHeartbeats 4000000 in
theorem readH_other (v : Value) (xs : List Int) (hl : xs.length ≠ 512) (w : World) (h : Sees w v xs) : Calls Try.prog 15 #[v] w (ReadHP w xs) := by
  obtain ⟨x, cap, rfl, h63⟩ := h.form
  have hz := z29
  have hb := bld29
  have hne : (xs.length : Int) ≠ 512 := by omega
  have I := Lib.hid (i29 H0_ok.2.2.2.2)
  have O := Lib.hid (one_hcells H0)
  have G := Lib.hid (heap_alloc_new w (.cells (hcells H0) 29))
  have R := Lib.hid (alloc_setRowT w (hcells H0) (hcells H0) 29 _ rfl)
  have BE : Hid (Below w.heap.size w (w.alloc (.cells (hcells H0) 29))) := (Below.refl _ _).alloc (Nat.le_refl _) _
  have NO := Lib.hid (readHP_no (w := w) (w' := w.alloc (.cells (hcells H0) 29)) (xs := xs) (fun h => hl h.1) BE.out)
  generalize hcells H0 = Z at *
  clear h hl BE
  go_enter Try.func15, Try.ntmps15
  go_wp2_with (refine wpList_store_row rfl 29 (.tmp 2) (.tmp 11) rfl w.heap.size Z rfl rfl 29 Z G.out I.out rfl O.out ?_; rw [R.out])
  exact bodyPost_ret (v := .tuple #[.agg Z, .int .i64 3]) (results_cell_tmp Try.results15 _ _ w.heap.size 29 Z (0, 0) _ rfl G.out Try.underlying29 rfl I.out) rfl NO.out
theorem pt_next (xs : List Int) (o n : Nat) : xs.drop o = pt xs o n ++ xs.drop (o + n) := by rw [← List.drop_drop]; exact (List.take_append_drop n (xs.drop o)).symm
set_option maxRecDepth 100000 in
set_option maxHeartbeats 8000000 in
theorem readH_full (v : Value) (xs : List Int) (hl : xs.length = 512) (w : World) (h : Sees w v xs) : Calls Try.prog 15 #[v] w (ReadHP w xs) := by
  have hz := z29
  have hok := hR_ok h.1 hl
  have B3 := Lib.hid bld29c
  have BZ := Lib.hid bld29
  have I0 := Lib.hid (i29 H0_ok.2.2.2.2)
  have O0 := Lib.hid (one_hcells H0)
  obtain ⟨x, cap, rfl, h63⟩ := h.form
  have SX := Lib.hid h
  rw [hl] at SX ⊢
  have LX := Lib.hid hl
  have WH : Hid (∀ W, Calls Try.prog 12 #[.agg (hcells (hR xs))] W (WriteHP W (hR xs))) := fun W => writeH _ hok W
  have LZ : Hid ((hR xs).z.length = 32) := hok.2.2.2.2
  obtain ⟨W1, hW1⟩ : ∃ W1, W1 = w.alloc (.cells (hcells H0) 29) := ⟨_, rfl⟩
  have B1 : Hid (Below w.heap.size w W1) := by rw [hW1]; exact (Below.refl _ _).alloc (Nat.le_refl _) _
  have G1 : Hid (W1.heap[w.heap.size]? = some (.cells (hcells H0) 29 (0, 0))) := by rw [hW1]; exact heap_alloc_new w _
  have HW1 := Lib.hid hW1
  clear hW1 h hl hok
  go_enter Try.func15, Try.ntmps15
  go_wp2_with fail
  rw [← HW1.out]
  refine (rx.readn _ xs (by rw [LX.out]; decide) _ (SX.out.below B1.out)).mono ?_
  rintro e W2 ⟨g, rfl, hr, hb, hge⟩
  have GN : Hid (w.heap.size ≠ g ∧ w.heap.size ≤ g) := by have := blk_lt G1.out; exact ⟨by omega, by omega⟩
  have B2 := Lib.hid (B1.out.trans (hb.mono B1.out.size))
  have G2 := Lib.hid ((hb.block _ (blk_lt G1.out)).trans G1.out)
  rw [show xs = xs.drop 0 from rfl, pt_next xs 0 8] at hr
  have R2 := Lib.hid hr
  clear hr hb hge G1 B1 HW1
  go_wp2_with fail
  refine (front _).mono ?_
  rintro e W3 ⟨gf, rfl, hs, hb, hn⟩
  have B3w := Lib.hid (B2.out.trans (hb.mono B2.out.size))
  have G3 := Lib.hid ((hb.block _ (blk_lt G2.out)).trans G2.out)
  have R3 := Lib.hid (rx.RD.below R2.out hb)
  clear hs hb hn G2 B2 R2
  go_wp2_with fail
  refine (rx.rdB g 8 _ _ (pt_len _ _ _ (by rw [LX.out]; decide)) (by rw [List.length_append, pt_len _ _ _ (by rw [LX.out]; decide), List.length_drop, LX.out]; decide) _ R3.out).mono ?_
  rintro e W4 ⟨q, rfl, hs, hq, hr, hg⟩
  have BG : ∀ {W W' : World}, Below w.heap.size w W → W.grownBy W' (some g) → Below w.heap.size w W' := fun hB hg => below_grown hB hg (fun k e => by injection e with e; rw [← e]; exact GN.out.2)
  have B4 := Lib.hid (BG B3w.out hg)
  have G4 := Lib.hid (row_kept hg G3.out GN.out.1)
  rw [show (0 : Nat) + 8 = 8 from rfl, pt_next xs 8 8] at hr
  have R4 := Lib.hid hr
  clear hs hq hr hg B3w G3 R3
  go_wp2_with fail
  refine (rx.rd64 g _ _ (pt_len _ _ _ (by rw [LX.out]; decide)) _ R4.out).mono ?_
  rintro e W5 ⟨he, hr, hg⟩
  obtain ⟨na, hna⟩ : ∃ n, n = numI (pt xs 8 8) := ⟨_, rfl⟩
  rw [← hna] at he
  subst he
  have Hna := Lib.hid hna
  clear hna
  have B5 := Lib.hid (BG B4.out hg)
  have G5 := Lib.hid (row_kept hg G4.out GN.out.1)
  rw [show (8 : Nat) + 8 = 16 from rfl, pt_next xs 16 8] at hr
  have R5 := Lib.hid hr
  clear hr hg B4 G4 R4
  go_wp2_with fail
  refine (rx.rd64 g _ _ (pt_len _ _ _ (by rw [LX.out]; decide)) _ R5.out).mono ?_
  rintro e W6 ⟨he, hr, hg⟩
  obtain ⟨nb, hnb⟩ : ∃ n, n = numI (pt xs 16 8) := ⟨_, rfl⟩
  rw [← hnb] at he
  subst he
  have Hnb := Lib.hid hnb
  clear hnb
  have B6 := Lib.hid (BG B5.out hg)
  have G6 := Lib.hid (row_kept hg G5.out GN.out.1)
  rw [show (16 : Nat) + 8 = 24 from rfl, pt_next xs 24 8] at hr
  have R6 := Lib.hid hr
  clear hr hg B5 G5 R5
  go_wp2_with fail
  refine (rx.rd64 g _ _ (pt_len _ _ _ (by rw [LX.out]; decide)) _ R6.out).mono ?_
  rintro e W7 ⟨he, hr, hg⟩
  obtain ⟨nc, hnc⟩ : ∃ n, n = numI (pt xs 24 8) := ⟨_, rfl⟩
  rw [← hnc] at he
  subst he
  have Hnc := Lib.hid hnc
  clear hnc
  have B7 := Lib.hid (BG B6.out hg)
  have G7 := Lib.hid (row_kept hg G6.out GN.out.1)
  rw [show (24 : Nat) + 8 = 32 from rfl, pt_next xs 32 4] at hr
  have R7 := Lib.hid hr
  clear hr hg B6 G6 R6
  have HZ := Lib.hid z29
  obtain ⟨c, hc⟩ : ∃ c, (nc == 1) = c := ⟨_, rfl⟩
  have A7 := Lib.hid (heap_alloc_new W7 (.cells (hcells H0) 29))
  have E7 := Lib.hid (alloc_setRowT W7 (hcells H0) (hcells ⟨na, nb, c, 0, zs 32⟩) 29 _ rfl)
  have I7 := Lib.hid (i29 (H := ⟨na, nb, c, 0, zs 32⟩) (zs_len 32))
  have O7 := Lib.hid (one_hcells ⟨na, nb, c, 0, zs 32⟩)
  have S7 : Hid ((hcells H0).size = (hcells ⟨na, nb, c, 0, zs 32⟩).size) := by show _ = _; rw [hcells_size (zs_len 32), hcells_size (zs_len 32)]
  have B3c := Lib.hid (B3.out na nb c)
  have HC3 := Lib.hid (hcell3 (heap_alloc_new W7 (.cells (hcells ⟨na, nb, c, 0, zs 32⟩) 29)))
  obtain ⟨C7, hC7⟩ : ∃ C, C = hcells ⟨na, nb, c, 0, zs 32⟩ := ⟨_, rfl⟩
  rw [← hC7] at E7 I7 O7 S7 B3c HC3
  have HC7 := Lib.hid hC7
  clear hC7 B3
  generalize hZ0 : hcells H0 = Z at *
  go_wp2_with (first
    | (refine wpList_build3_run (u1 := .int .u64 na) (u2 := .int .u64 nb) (u3 := .bool c) rfl 29 0 1 2 (.tmp 19) (.tmp 21) (.tmp 24) rfl rfl rfl rfl (B3c.out _) ?_)
    | (refine wpList_store_row rfl 29 (.tmp 5) (.tmp 25) rfl W7.heap.size C7 rfl rfl 29 Z A7.out I7.out S7.out O7.out ?_; rw [E7.out]))
  have hal : Below W7.heap.size W7 (W7.alloc (.cells C7 29)) := (Below.refl _ _).alloc (Nat.le_refl _) _
  have R8 := Lib.hid (rx.RD.below R7.out hal)
  have B8 := Lib.hid (B7.out.trans (hal.mono B7.out.size))
  have G8 := Lib.hid ((hal.block _ (blk_lt G7.out)).trans G7.out)
  have GS := Lib.hid (heap_alloc_new W7 (.cells C7 29))
  have GN2 : Hid (W7.heap.size ≠ g ∧ W7.heap.size + 1 ≠ g ∧ w.heap.size ≠ W7.heap.size ∧ w.heap.size ≤ W7.heap.size) := by
    obtain ⟨_, _, _, _, hgg, _⟩ := R7.out
    have := blk_lt hgg
    have := blk_lt G7.out
    have := B7.out.size
    exact ⟨by omega, by omega, by omega, by omega⟩
  clear hal R7 B7 G7 A7 E7 S7 HC3
  generalize W7.alloc (.cells C7 29) = W8 at *
  generalize W7.heap.size = g5 at *
  refine (rx.rd32 g _ _ (pt_len _ _ _ (by rw [LX.out]; decide)) _ R8.out).mono ?_
  rintro e W9 ⟨he, hr, hg⟩
  obtain ⟨nd, hnd⟩ : ∃ n, n = numI (pt xs 32 4) := ⟨_, rfl⟩
  rw [← hnd] at he
  subst he
  have Hnd := Lib.hid hnd
  clear hnd
  have B9 := Lib.hid (BG B8.out hg)
  have G9 := Lib.hid (row_kept hg G8.out GN.out.1)
  have S9 := Lib.hid (row_kept hg GS.out GN2.out.1)
  rw [show (32 : Nat) + 4 = 36 from rfl, pt_next xs 36 32] at hr
  have c3 : W9.cell? ⟨g5, 3, none⟩ = some (.int .u32 0) := by
    have h := S9.out
    rw [HC7.out] at h
    exact hcell3 h
  have hfz : W9.frozen? ⟨g5, 3, none⟩ = false := frozen_block S9.out 3
  have hset : C7.setIfInBounds 3 (.int .u32 nd) = hcells ⟨na, nb, c, nd, zs 32⟩ := by
    rw [HC7.out]
    apply Array.ext'
    rw [Array.toList_setIfInBounds, hcells_toList, hcells_toList]
    rfl
  obtain ⟨C10, hC10⟩ : ∃ C, C = hcells ⟨na, nb, c, nd, zs 32⟩ := ⟨_, rfl⟩
  have hst : W9.setCell ⟨g5, 3, none⟩ (.int .u32 nd) = W9.setRow g5 C10 := by rw [setCell_eq_setRow W9 g5 3 C7 29 (0, 0) _ S9.out, hset, hC10]
  have R10 := Lib.hid (rx.RD.setRow hr C10 GN2.out.1 GN2.out.2.1)
  have B10 := Lib.hid (B9.out.trans (below_row (B := w.heap.size) (g := g5) _ C10 GN2.out.2.2.2))
  have G10 : Hid ((W9.setRow g5 C10).heap[w.heap.size]? = some (.cells Z 29 (0, 0))) := (setRow_other _ _ _ _ GN2.out.2.2.1).trans G9.out
  have S10 : Hid ((W9.setRow g5 C10).heap[g5]? = some (.cells C10 29 (0, 0))) := setRow_heap _ _ _ _ _ _ S9.out
  have HC10 := Lib.hid hC10
  clear hr hg B8 G8 R8 GS B9 G9 hC10 hset
  generalize W9.setRow g5 C10 = W10 at *
  go_wp2_with fail
  refine wp_region_held_drew (S := fun _ => True) (by kernel_rfl) trivial (fun hS => ?_)
  refine' wpAnyH_take (i := 0) ?h1x0r ?hsx0r ?hfx0r ?hrx0r ?hQx0r (Or.inl ⟨?hwx0r, ?hyx0r⟩) hS ?restx0r
  case h1x0r => (simp only [List.getElem?_toArray, List.getElem?_cons_zero]; rfl)
  case hsx0r => kernel_rfl
  case hfx0r => kernel_rfl
  case hrx0r => kernel_rfl
  case hQx0r => exact fun _ _ _ h => h
  case hwx0r => rfl
  case hyx0r =>
    intro W hW
    go_simp
    try with_reducible rfl
  simp only [Act.put, List.setIfInBounds_toArray, List.set_cons_succ, List.set_cons_zero]
  refine' wpAnyH_take (i := 1) ?h1x1r ?hsx1r ?hfx1r ?hrx1r ?hQx1r (Or.inl ⟨?hwx1r, ?hyx1r⟩) hS ?restx1r
  case h1x1r => (simp only [List.getElem?_toArray, List.getElem?_cons_succ, List.getElem?_cons_zero]; rfl)
  case hsx1r => kernel_rfl
  case hfx1r => kernel_rfl
  case hrx1r => kernel_rfl
  case hQx1r => exact fun _ _ _ h => h
  case hwx1r => rfl
  case hyx1r =>
    intro W hW
    go_simp
    try with_reducible rfl
  simp only [Act.put, List.setIfInBounds_toArray, List.set_cons_succ, List.set_cons_zero]
  refine' wpAnyH_take (i := 2) ?h1x2r ?hsx2r ?hfx2r ?hrx2r ?hQx2r (Or.inl ⟨?hwx2r, ?hyx2r⟩) hS ?restx2r
  case h1x2r => (simp only [List.getElem?_toArray, List.getElem?_cons_succ, List.getElem?_cons_zero]; rfl)
  case hsx2r => kernel_rfl
  case hfx2r => kernel_rfl
  case hrx2r => kernel_rfl
  case hQx2r => exact fun _ _ _ h => h
  case hwx2r => rfl
  case hyx2r =>
    intro W hW
    go_simp
    try with_reducible rfl
  simp only [Act.put, List.setIfInBounds_toArray, List.set_cons_succ, List.set_cons_zero]
  refine' wpAnyH_take (i := 3) ?h1x3r ?hsx3r ?hfx3r ?hrx3r ?hQx3r (Or.inl ⟨?hwx3r, ?hyx3r⟩) hS ?restx3r
  case h1x3r => (simp only [List.getElem?_toArray, List.getElem?_cons_succ, List.getElem?_cons_zero]; rfl)
  case hsx3r => kernel_rfl
  case hfx3r => kernel_rfl
  case hrx3r => kernel_rfl
  case hQx3r => exact fun _ _ _ h => h
  case hwx3r => rfl
  case hyx3r =>
    intro W hW
    go_simp
    try with_reducible rfl
  simp only [Act.put, List.setIfInBounds_toArray, List.set_cons_succ, List.set_cons_zero]
  refine wpAnyH_ready (rs := [4]) (by kernel_rfl) (by simp) ?_
  refine' AllReadyH.cons ?hoc4r (fun K hK => ?stc4r) AllReadyH.nil
  case hoc4r => (simp only [List.getElem?_toArray, List.getElem?_cons_succ, List.getElem?_cons_zero]; rfl)
  go_simp
  refine (rx.rdB g 32 _ _ (pt_len _ _ _ (by rw [LX.out]; decide)) (by rw [List.length_append, pt_len _ _ _ (by rw [LX.out]; decide), List.length_drop, LX.out]; decide) _ (show rx.RD W10.drew g _ false from R10.out)).mono ?_
  rintro e W11 ⟨q, rfl, hs, hq, hr, hg⟩
  go_wp2_with fail
  refine hK.out _ _ trivial (fun hHeld => ?_)
  clear hK K hHeld
  try simp only [Act.put, List.setIfInBounds_toArray, List.set_cons_succ, List.set_cons_zero]
  have B11 := Lib.hid (BG (W := W10.drew) B10.out.drew hg)
  have G11 := Lib.hid (row_kept hg (show W10.drew.heap[w.heap.size]? = _ from G10.out) GN.out.1)
  have S11 := Lib.hid (row_kept hg (show W10.drew.heap[g5]? = _ from S10.out) GN2.out.1)
  have l32 := pt_len xs 36 32 (by rw [LX.out]; decide)
  have hCR : hR xs = ⟨na, nb, c, nd, pt xs 36 32⟩ := by
    unfold hR
    rw [← Hna.out, ← Hnb.out, ← Hnc.out, ← Hnd.out, hc]
  have hrun := run_copy_row Try.prog W11 30 30 3 5 g5 4 32 32 ⟨q, 0, none⟩ 32 32 C10 29 ((pt xs 36 32).map (Value.int .u8)) Try.underlying30 info5s S11.out (by rw [List.length_map, l32]; rfl)
    (fun j u hj => by
      have hjl : j < (pt xs 36 32).length := by
        rcases Nat.lt_or_ge j (pt xs 36 32).length with h | h
        · exact h
        · simp [List.getElem?_eq_none (show ((pt xs 36 32).map (Value.int .u8)).length ≤ j by simpa using h)] at hj
      have hplain : (⟨q, 0, none⟩ : Addr).add j = ⟨q, 0 + j, none⟩ := by unfold Addr.add; split <;> simp_all
      rw [hplain, hs.cell j hjl, ← hj]
      simp [nth, List.getD, hjl]) (by rw [HC10.out, hcells_size (zs_len 32), List.length_map, l32]; decide) (by simp [Value.oneCell'])
  have hnew : (C10.toList.take 4 ++ (pt xs 36 32).map (Value.int .u8) ++ C10.toList.drop (4 + ((pt xs 36 32).map (Value.int .u8)).length)).toArray = hcells (hR xs) := by
    apply Array.ext'
    rw [hCR, hcells_toList, HC10.out, hcells_toList, List.length_map, l32]
    rw [List.drop_of_length_le (by simp [zs_len])]
    simp
  have hgo : goInt ((pt xs 36 32).map (Value.int .u8)).length = .int .i64 32 := by rw [List.length_map, l32]; rfl
  rw [hnew, hgo] at hrun
  have HRUN := Lib.hid hrun
  have IR := Lib.hid (i29 LZ.out)
  have OR := Lib.hid (one_hcells (hR xs))
  have ZR : Hid (Z.size = (hcells (hR xs)).size) := by show _ = _; rw [← hZ0, hcells_size (zs_len 32), hcells_size LZ.out]
  have B12 := Lib.hid (B11.out.trans (below_row (B := w.heap.size) (g := g5) _ (hcells (hR xs)) GN2.out.2.2.2))
  have G12 : Hid ((W11.setRow g5 (hcells (hR xs))).heap[w.heap.size]? = some (.cells Z 29 (0, 0))) := (setRow_other _ _ _ _ GN2.out.2.2.1).trans G11.out
  have S12 : Hid ((W11.setRow g5 (hcells (hR xs))).heap[g5]? = some (.cells (hcells (hR xs)) 29 (0, 0))) := setRow_heap _ _ _ _ _ _ S11.out
  have EY : Hid ((hR xs).may → hE (hR xs) = 0 ∧ hV (hR xs) = hW (hR xs)) := fun hm => ⟨if_pos hm, if_pos hm⟩
  have EN : Hid (¬ (hR xs).may → hE (hR xs) = 3) := fun hm => if_neg hm
  have YES : Hid ((hR xs).may → hW (hR xs) = xs → ∀ W', Below w.heap.size w W' → ReadHP w xs (.returned (.tuple #[.agg (hcells (hR xs)), .int .i64 0])) W') := fun h1 h2 W' hb => readHP_yes ⟨LX.out, h1, h2⟩ hb
  have NO : Hid (¬ ((hR xs).may ∧ hW (hR xs) = xs) → ∀ W', Below w.heap.size w W' → ReadHP w xs (.returned (.tuple #[.agg Z, .int .i64 3])) W') := fun h1 W' hb => by rw [← hZ0]; exact readHP_no (fun h => h1 h.2) hb
  clear hrun hnew hgo hs hq hr hg l32 hCR B10 G10 S10 R10 G11 S11 B11 c3 hfz hst S9 HC7 HC10 LZ
  generalize hcells (hR xs) = CR at *
  generalize W11.setRow g5 CR = W12 at *
  generalize hW (hR xs) = WW at *
  refine wpAnyH_ready (rs := [5]) (by kernel_rfl) (by simp) ?_
  refine' AllReadyH.cons ?hoc5r (fun K hK => ?stc5r) AllReadyH.nil
  case hoc5r => (simp only [List.getElem?_toArray, List.getElem?_cons_succ, List.getElem?_cons_zero]; rfl)
  refine step_copy_run rfl (.tmp 32) (.tmp 34) 30 30 rfl rfl rfl rfl HRUN.out ?_
  refine hK.out _ _ trivial (fun hHeld => ?_)
  clear hK K hHeld hS
  try simp only [Act.put, List.setIfInBounds_toArray, List.set_cons_succ, List.set_cons_zero]
  refine wpAnyH_done (by kernel_rfl) ?_ _
  go_wp2_with (first
    | (refine wpList_load_row rfl 29 (.tmp 5) rfl g5 rfl 29 CR (0, 0) _ S12.out Try.underlying29 rfl IR.out ?_))
  refine (WH.out _).mono ?_
  rintro e W13 ⟨u, he, hs, hb⟩
  have B13 := Lib.hid (B12.out.trans (hb.mono B12.out.size))
  have G13 := Lib.hid ((hb.block _ (blk_lt G12.out)).trans G12.out)
  have S13 := Lib.hid ((hb.block _ (blk_lt S12.out)).trans S12.out)
  obtain ⟨ux, uc, rfl, _⟩ := hs.form
  by_cases hm : (hR xs).may
  · obtain ⟨e0, e1⟩ := EY.out hm
    rw [e0] at he
    rw [e1] at hs he
    subst he
    have SU := Lib.hid hs
    have YES2 := Lib.hid (YES.out hm)
    have NO2 : Hid (WW ≠ xs → ∀ W', Below w.heap.size w W' → ReadHP w xs (.returned (.tuple #[.agg Z, .int .i64 3])) W') := fun h => NO.out (fun h' => h h'.2)
    clear hs hb B12 G12 S12 EY EN YES NO WH HRUN e0 e1 hm
    go_wp2_with fail
    refine (same _ _ _ _ _ SU.out (SX.out.below B13.out)).mono ?_
    by_cases hq : WW = xs
    · rw [decide_eq_true hq]
      rintro e W14 ⟨rfl, rfl⟩
      have YES3 := Lib.hid (YES2.out hq)
      clear NO2 YES2
      go_wp2_with (first
        | (refine wpList_load_row rfl 29 (.tmp 5) rfl g5 rfl 29 CR (0, 0) _ S13.out Try.underlying29 rfl IR.out ?_)
        | (refine wpList_store_row rfl 29 (.tmp 2) (.tmp 50) rfl w.heap.size CR rfl rfl 29 Z G13.out IR.out ZR.out OR.out ?_))
      exact bodyPost_ret (v := .tuple #[.agg CR, .int .i64 0]) (results_cell_tmp Try.results15 _ _ w.heap.size 29 CR (0, 0) _ rfl (setRow_heap _ _ _ _ _ _ G13.out) Try.underlying29 rfl IR.out) rfl (YES3.out _ (B13.out.trans (below_row _ _ (Nat.le_refl _))))
    · rw [decide_eq_false hq]
      rintro e W14 ⟨rfl, rfl⟩
      have NO3 := Lib.hid (NO2.out hq)
      clear NO2 YES2
      go_wp2_with (first
        | (refine wpList_store_row rfl 29 (.tmp 2) (.tmp 49) rfl w.heap.size Z rfl rfl 29 Z G13.out I0.out rfl O0.out ?_)
        | (refine wpList_blank_met rfl 29 rfl (BZ.out _) ?_))
      exact bodyPost_ret (v := .tuple #[.agg Z, .int .i64 3]) (results_cell_tmp Try.results15 _ _ w.heap.size 29 Z (0, 0) _ rfl (setRow_heap _ _ _ _ _ _ G13.out) Try.underlying29 rfl I0.out) rfl (NO3.out _ (B13.out.trans (below_row _ _ (Nat.le_refl _))))
  · rw [EN.out hm] at he
    subst he
    have NO3 := Lib.hid (NO.out (fun h' => hm h'.1))
    clear hs hb B12 G12 S12 EY EN YES NO WH HRUN hm
    go_wp2_with (first
      | (refine wpList_store_row rfl 29 (.tmp 2) (.tmp 49) rfl w.heap.size Z rfl rfl 29 Z G13.out I0.out rfl O0.out ?_)
      | (refine wpList_blank_met rfl 29 rfl (BZ.out _) ?_))
    exact bodyPost_ret (v := .tuple #[.agg Z, .int .i64 3]) (results_cell_tmp Try.results15 _ _ w.heap.size 29 Z (0, 0) _ rfl (setRow_heap _ _ _ _ _ _ G13.out) Try.underlying29 rfl I0.out) rfl (NO3.out _ (B13.out.trans (below_row _ _ (Nat.le_refl _))))
theorem readH (v : Value) (xs : List Int) (w : World) (h : Sees w v xs) : Calls Try.prog 15 #[v] w (ReadHP w xs) := by
  by_cases hl : xs.length = 512
  · exact readH_full v xs hl w h
  · exact readH_other v xs hl w h
end Go.Proofs.Ytplffbpnjnbolaa
