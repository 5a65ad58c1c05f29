/-
  Contracts of the functions that the statements of package super go through: the register that bytes are. Condition: they are 64 bytes.
-/
import Derived.Test.YtplffbpnjnbolaaSuD
namespace Go.Proofs.Ytplffbpnjnbolaa
open Go.RowKit
def G0 : Rg := ⟨zs 32, 0, 0, 0⟩
def gR (xs : List Int) : Rg := ⟨pt xs 0 32, numI (pt xs 32 8), numI (pt xs 40 8), numI (pt xs 48 1)⟩
def gRe (xs : List Int) : Int := if xs = zs 64 then 4 else if (gR xs).k ≤ 1 ∧ gW (gR xs) = xs then 0 else 3
def gRv (xs : List Int) : Rg := if gRe xs = 0 then gR xs else G0
def ReadGP (w : World) (xs : List Int) (e : Ending) (w' : World) : Prop := e = .returned (.tuple #[.agg (gcells (gRv xs)), .int .i64 (gRe xs)]) ∧ Below w.heap.size w w'
theorem G0_ok : G0.ok := ⟨⟨by decide, by decide⟩, ⟨by decide, by decide⟩, ⟨by decide, by decide⟩, zs_byt _, zs_len _⟩
theorem num8 {p : List Int} (hp : Byt p) (hl : p.length = 1) : 0 ≤ numI p ∧ numI p ≤ 255 := by
  have := numI_bd 1 p hl hp
  have e : (256 : Int) ^ 1 = 256 := by decide
  omega
theorem gR_ok {xs : List Int} (h : Byt xs) (hl : xs.length = 64) : (gR xs).ok :=
  ⟨num64 (pt_byt h _ _) (pt_len _ _ _ (by omega)), num64 (pt_byt h _ _) (pt_len _ _ _ (by omega)), num8 (pt_byt h _ _) (pt_len _ _ _ (by omega)), pt_byt h _ _, pt_len _ _ _ (by omega)⟩
theorem gRv_ok {xs : List Int} (h : Byt xs) (hl : xs.length = 64) : (gRv xs).ok := by
  unfold gRv
  split
  · exact gR_ok h hl
  · exact G0_ok
theorem readGP_z {w w' : World} {xs : List Int} (h : xs = zs 64) (hb : Below w.heap.size w w') : ReadGP w xs (.returned (.tuple #[.agg (gcells G0), .int .i64 4])) w' := by
  have e1 : gRe xs = 4 := by unfold gRe; rw [if_pos h]
  have e2 : gRv xs = G0 := by unfold gRv; rw [if_neg (by rw [e1]; decide)]
  unfold ReadGP
  rw [e1, e2]; exact ⟨rfl, hb⟩
theorem readGP_no {w w' : World} {xs : List Int} (h0 : xs ≠ zs 64) (h : ¬ ((gR xs).k ≤ 1 ∧ gW (gR xs) = xs)) (hb : Below w.heap.size w w') : ReadGP w xs (.returned (.tuple #[.agg (gcells G0), .int .i64 3])) w' := by
  have e1 : gRe xs = 3 := by unfold gRe; rw [if_neg h0, if_neg h]
  have e2 : gRv xs = G0 := by unfold gRv; rw [if_neg (by rw [e1]; decide)]
  unfold ReadGP
  rw [e1, e2]; exact ⟨rfl, hb⟩
theorem readGP_yes {w w' : World} {xs : List Int} (h0 : xs ≠ zs 64) (h : (gR xs).k ≤ 1 ∧ gW (gR xs) = xs) (hb : Below w.heap.size w w') : ReadGP w xs (.returned (.tuple #[.agg (gcells (gR xs)), .int .i64 0])) w' := by
  have e1 : gRe xs = 0 := by unfold gRe; rw [if_neg h0, if_pos h]
  have e2 : gRv xs = gR xs := by unfold gRv; rw [if_pos e1]
  unfold ReadGP
  rw [e1, e2]; exact ⟨rfl, hb⟩
theorem i46 {R : Rg} (h : R.z.length = 32) : (Try.prog.info? 46).map (·.size) = some (gcells R).size := by rw [gcells_size h]; kernel_rfl
theorem one_gcells (R : Rg) : (gcells R).all (·.oneCell') = true := by simp [gcells, bcells, Value.oneCell']
set_option maxRecDepth 100000 in
theorem z46 (w : World) : (zeroValue 46).run Try.prog w = .ok (.agg (gcells G0)) w := by kernel_rfl
set_option maxRecDepth 100000 in
theorem bld46 (w : World) : (Instr.build 46 #[]).run Try.prog w = .ok (.agg (gcells G0)) w := by kernel_rfl
theorem eq47 (xs ys : List Int) (hx : Byt xs) (hy : Byt ys) (lx : xs.length = 64) (ly : ys.length = 64) (w : World) :
    (Op.equalIn 10000 47 (.agg (bcells xs)) (.agg (bcells ys))).run Try.prog w = .ok (decide (xs = ys)) w := eqBytes 9998 47 64 (by kernel_rfl) xs ys hx hy lx ly w
theorem gset (R : Rg) (hl : R.z.length = 32) (a b c : Int) : (gcells R).setIfInBounds 32 (.int .u64 a) = gcells ⟨R.z, a, R.e, R.k⟩ ∧ (gcells ⟨R.z, a, R.e, R.k⟩).setIfInBounds 33 (.int .u64 b) = gcells ⟨R.z, a, b, R.k⟩ ∧
    (gcells ⟨R.z, a, b, R.k⟩).setIfInBounds 34 (.int .u8 c) = gcells ⟨R.z, a, b, c⟩ := by
  refine ⟨?_, ?_, ?_⟩ <;>
  · apply Array.ext'
    rw [Array.toList_setIfInBounds, gcells_toList, gcells_toList, List.set_append_right _ _ (by simp [hl])]
    simp [hl]
theorem wpList_load_met' {ops : Array Oper} {rest : List Oper} {o : Oper} {a : Act} {w : World} {Q : Exit → Act → World → Prop} (hw : Region.wanted o (yielded ops a.tmps) = true) (ty : TypeId) (x : Operand) (ho : o.op = .load ty x)
    (g : Nat) (hx : a.eval x = .pointer (some ⟨g, 0, none⟩)) (t : TypeId) (cs : Array Value) (fr : Nat × Nat) (d : TypeDesc) (hg : w.heap[g]? = some (.cells cs t fr))
    (hu : Try.prog.underlying ty = some d) (hd : ∃ n e, d = .array n e) (hi : (Try.prog.info? ty).map (·.size) = some cs.size)
    (h : wpList Try.prog ops Q rest (a.put o.dst (.agg cs)) w) : wpList Try.prog ops Q (o :: rest) a w := by
  obtain ⟨n, e, rfl⟩ := hd
  exact wpList_wanted hw fun _ hK => wp_load_row ty x ho g hx t cs fr _ hg hu rfl hi (hK _ _ h)
set_option maxRecDepth 100000 in
set_option maxHeartbeats 8000000 in
theorem readG (xs : List Int) (hx : Byt xs) (hl : xs.length = 64) (w : World) : Calls Try.prog 21 #[.agg (bcells xs)] w (ReadGP w xs) := by
  have hz46 := z46
  have BZ := Lib.hid bld46
  have BY := Lib.hid bld47
  have I0 := Lib.hid (i46 (R := G0) (zs_len 32))
  have O0 := Lib.hid (one_gcells G0)
  have IX := Lib.hid (i47 hl)
  obtain ⟨W2, hW2⟩ : ∃ W2, W2 = (w.alloc (.cells (bcells xs) 47)).alloc (.cells (gcells G0) 46) := ⟨_, rfl⟩
  have HW2 := Lib.hid hW2
  have B2 : Hid (Below w.heap.size w W2) := by rw [hW2]; exact ((Below.refl _ _).alloc (Nat.le_refl _) _).alloc (by simp) _
  have G1 : Hid (W2.heap[w.heap.size]? = some (.cells (bcells xs) 47 (0, 0))) := by show _ = _; rw [hW2, Below.heap_alloc _ _ _ (by simp)]; exact heap_alloc_new w _
  have G2 : Hid (W2.heap[w.heap.size + 1]? = some (.cells (gcells G0) 46 (0, 0))) := by show _ = _; rw [hW2]; exact heap_alloc2_new w _ _
  clear hW2
  by_cases hq0 : xs = zs 64
  · have ZE := Lib.hid (fun W' hb => readGP_z (w := w) (w' := W') hq0 hb)
    have EQ : Hid (∀ W, (Op.equalIn 10000 47 (.agg (bcells xs)) (.agg (bcells (zs 64)))).run Try.prog W = .ok true W) := fun W => by rw [eq47 xs (zs 64) hx (zs_byt _) hl (zs_len _) W, decide_eq_true hq0]
    have eq := EQ.out
    generalize bcells (zs 64) = Z6 at *
    generalize bcells xs = CX at *
    generalize gcells G0 = Z at *
    clear hq0 hx hl EQ
    go_enter Try.func21, Try.ntmps21
    go_wp2_with (first
      | (refine wpList_load_row rfl 47 (.tmp 1) rfl w.heap.size rfl 47 CX (0, 0) _ (by rw [← HW2.out]; exact G1.out) Try.underlying47 rfl IX.out ?_)
      | (refine wpList_blank_met rfl 47 rfl (BY.out _) ?_)
      | (refine wpList_blank_met rfl 46 rfl (BZ.out _) ?_)
      | (refine wpList_store_row rfl 46 (.tmp 2) (.tmp 11) rfl (w.heap.size + 1) Z rfl rfl 46 Z (by rw [← HW2.out]; exact G2.out) I0.out rfl O0.out ?_; rw [← HW2.out, setRow_self _ _ _ _ _ G2.out]))
    exact bodyPost_ret (v := .tuple #[.agg Z, .int .i64 4]) (results_cell_tmp Try.results21 _ _ (w.heap.size + 1) 46 Z (0, 0) _ rfl G2.out Try.underlying46 rfl I0.out) rfl (ZE.out _ B2.out)
  · have EQ : Hid (∀ W, (Op.equalIn 10000 47 (.agg (bcells xs)) (.agg (bcells (zs 64)))).run Try.prog W = .ok false W) := fun W => by rw [eq47 xs (zs 64) hx (zs_byt _) hl (zs_len _) W, decide_eq_false hq0]
    have hok := gR_ok hx hl
    have WG : Hid (∀ W, Calls Try.prog 18 #[.agg (gcells (gR xs))] W (WriteGP W (gR xs))) := fun W => writeG _ hok W
    have YES : Hid ((gR xs).k ≤ 1 → gW (gR xs) = xs → ∀ W', Below w.heap.size w W' → ReadGP w xs (.returned (.tuple #[.agg (gcells (gR xs)), .int .i64 0])) W') := fun h1 h2 W' hb => readGP_yes hq0 ⟨h1, h2⟩ hb
    have NO : Hid (¬ ((gR xs).k ≤ 1 ∧ gW (gR xs) = xs) → ∀ W', Below w.heap.size w W' → ReadGP w xs (.returned (.tuple #[.agg (gcells G0), .int .i64 3])) W') := fun h1 W' hb => readGP_no hq0 h1 hb
    have EY : Hid ((gR xs).k ≤ 1 → gE (gR xs) = 0 ∧ gV (gR xs) = gW (gR xs)) := fun hm => ⟨if_pos hm, if_pos hm⟩
    have EN : Hid (¬ (gR xs).k ≤ 1 → gE (gR xs) = 3) := fun hm => if_neg hm
    have LZ : Hid ((gR xs).z.length = 32) := hok.2.2.2.2
    have BV : Hid (Byt (gV (gR xs)) ∧ (gV (gR xs)).length = 64) := ⟨gV_byt hok.2.2.2.1, gV_len hok.2.2.2.2⟩
    have HX := Lib.hid hx
    have LX := Lib.hid hl
    have SX : Hid (Sees W2 (.slice (some ⟨w.heap.size, 0, none⟩) 64 64) xs) := sees_rowT W2 _ 47 xs hx (by rw [hl]; decide) G1.out _ hl.symm
    have eq := EQ.out
    have hz47 := z47
    clear hq0 hx hl EQ hok
    generalize hC0 : gcells G0 = Z at *
    generalize hC6 : bcells (zs 64) = Z6 at *
    generalize hCX : bcells xs = CX at *
    go_enter Try.func21, Try.ntmps21
    go_wp2_with (first
      | (refine wpList_load_row rfl 47 (.tmp 1) rfl w.heap.size rfl 47 CX (0, 0) _ (by rw [← HW2.out]; exact G1.out) Try.underlying47 rfl IX.out ?_)
      | (refine wpList_blank_met rfl 47 rfl (BY.out _) ?_))
    rw [← HW2.out]
    refine (rx.readn _ xs (by rw [LX.out]; decide) _ SX.out).mono ?_
    rintro e W3 ⟨g, rfl, hr, hb, hge⟩
    have GN : Hid (w.heap.size ≠ g ∧ w.heap.size + 1 ≠ g ∧ w.heap.size ≤ g) := by have := blk_lt G2.out; exact ⟨by omega, by omega, by omega⟩
    have B3 := Lib.hid (B2.out.trans (hb.mono B2.out.size))
    have GX3 := Lib.hid ((hb.block _ (blk_lt G1.out)).trans G1.out)
    have GR3 := Lib.hid ((hb.block _ (blk_lt G2.out)).trans G2.out)
    have BG : ∀ {W W' : World}, Below w.heap.size w W → W.grownBy W' (some g) → Below w.heap.size w W' := fun hB hg => below_grown hB hg (fun k e => by injection e with e; rw [← e]; exact GN.out.2.2)
    have hal : Below W3.heap.size W3 (W3.alloc (.cells Z 46)) := (Below.refl _ _).alloc (Nat.le_refl _) _
    rw [show xs = xs.drop 0 from rfl, pt_next xs 0 32] at hr
    have R4 := Lib.hid (rx.RD.below hr hal)
    have B4 := Lib.hid (B3.out.trans (hal.mono B3.out.size))
    have GX4 := Lib.hid ((hal.block _ (blk_lt GX3.out)).trans GX3.out)
    have GR4 := Lib.hid ((hal.block _ (blk_lt GR3.out)).trans GR3.out)
    have S4 := Lib.hid (heap_alloc_new W3 (.cells Z 46))
    have GN2 : Hid (W3.heap.size ≠ g ∧ W3.heap.size + 1 ≠ g ∧ w.heap.size ≠ W3.heap.size ∧ w.heap.size + 1 ≠ W3.heap.size ∧ w.heap.size ≤ W3.heap.size) := by
      obtain ⟨_, _, _, _, hgg, _⟩ := hr
      have := blk_lt hgg
      have := blk_lt GR3.out
      exact ⟨by omega, by omega, by omega, by omega, by omega⟩
    clear hr hb hge hal B2 G1 G2 SX B3 GX3 GR3 HW2
    go_wp2_with fail
    generalize W3.alloc (.cells Z 46) = W4 at *
    generalize W3.heap.size = g5 at *
    refine wp_region_held_drew (S := fun _ => True) (by kernel_rfl) trivial (fun hS => ?_)
    refine' wpAnyH_take (i := 0) ?h1x0r ?hsx0r ?hfx0r ?hrx0r ?hQx0r (Or.inl ⟨?hwx0r, ?hyx0r⟩) hS ?restx0r
    case h1x0r => (simp only [List.getElem?_toArray, List.getElem?_cons_zero]; rfl)
    case hsx0r => kernel_rfl
    case hfx0r => kernel_rfl
    case hrx0r => kernel_rfl
    case hQx0r => exact fun _ _ _ h => h
    case hwx0r => rfl
    case hyx0r =>
      intro W hW
      go_simp
      try with_reducible rfl
    simp only [Act.put, List.setIfInBounds_toArray, List.set_cons_succ, List.set_cons_zero]
    refine' wpAnyH_take (i := 1) ?h1x1r ?hsx1r ?hfx1r ?hrx1r ?hQx1r (Or.inl ⟨?hwx1r, ?hyx1r⟩) hS ?restx1r
    case h1x1r => (simp only [List.getElem?_toArray, List.getElem?_cons_succ, List.getElem?_cons_zero]; rfl)
    case hsx1r => kernel_rfl
    case hfx1r => kernel_rfl
    case hrx1r => kernel_rfl
    case hQx1r => exact fun _ _ _ h => h
    case hwx1r => rfl
    case hyx1r =>
      intro W hW
      go_simp
      try with_reducible rfl
    simp only [Act.put, List.setIfInBounds_toArray, List.set_cons_succ, List.set_cons_zero]
    refine' wpAnyH_take (i := 2) ?h1x2r ?hsx2r ?hfx2r ?hrx2r ?hQx2r (Or.inl ⟨?hwx2r, ?hyx2r⟩) hS ?restx2r
    case h1x2r => (simp only [List.getElem?_toArray, List.getElem?_cons_succ, List.getElem?_cons_zero]; rfl)
    case hsx2r => kernel_rfl
    case hfx2r => kernel_rfl
    case hrx2r => kernel_rfl
    case hQx2r => exact fun _ _ _ h => h
    case hwx2r => rfl
    case hyx2r =>
      intro W hW
      go_simp
      try with_reducible rfl
    simp only [Act.put, List.setIfInBounds_toArray, List.set_cons_succ, List.set_cons_zero]
    refine wpAnyH_ready (rs := [3]) (by kernel_rfl) (by simp) ?_
    refine' AllReadyH.cons ?hoc3r (fun K hK => ?stc3r) AllReadyH.nil
    case hoc3r => (simp only [List.getElem?_toArray, List.getElem?_cons_succ, List.getElem?_cons_zero]; rfl)
    go_simp
    refine (rx.rdB g 32 _ _ (pt_len _ _ _ (by rw [LX.out]; decide)) (by rw [List.length_append, pt_len _ _ _ (by rw [LX.out]; decide), List.length_drop, LX.out]; decide) _ (show rx.RD W4.drew g _ false from R4.out)).mono ?_
    rintro e W5 ⟨q, rfl, hs, hq, hr, hg⟩
    go_wp2_with fail
    refine hK.out _ _ trivial (fun hHeld => ?_)
    clear hK K hHeld
    try simp only [Act.put, List.setIfInBounds_toArray, List.set_cons_succ, List.set_cons_zero]
    have B5 := Lib.hid (BG (W := W4.drew) B4.out.drew hg)
    have GX5 := Lib.hid (row_kept hg (show W4.drew.heap[w.heap.size]? = _ from GX4.out) GN.out.1)
    have GR5 := Lib.hid (row_kept hg (show W4.drew.heap[w.heap.size + 1]? = _ from GR4.out) GN.out.2.1)
    have S5 := Lib.hid (row_kept hg (show W4.drew.heap[g5]? = _ from S4.out) GN2.out.1)
    have l32 := pt_len xs 0 32 (by rw [LX.out]; decide)
    have hrun := run_copy_row Try.prog W5 30 30 3 5 g5 0 32 32 ⟨q, 0, none⟩ 32 32 Z 46 ((pt xs 0 32).map (Value.int .u8)) Try.underlying30 info5s S5.out (by rw [List.length_map, l32]; rfl)
      (fun j u hj => by
        have hjl : j < (pt xs 0 32).length := by
          rcases Nat.lt_or_ge j (pt xs 0 32).length with h | h
          · exact h
          · simp [List.getElem?_eq_none (show ((pt xs 0 32).map (Value.int .u8)).length ≤ j by simpa using h)] at hj
        have hplain : (⟨q, 0, none⟩ : Addr).add j = ⟨q, 0 + j, none⟩ := by unfold Addr.add; split <;> simp_all
        rw [hplain, hs.cell j hjl, ← hj]
        simp [nth, List.getD, hjl]) (by rw [← hC0, gcells_size (zs_len 32), List.length_map, l32]; decide) (by simp [Value.oneCell'])
    have hnew : (Z.toList.take 0 ++ (pt xs 0 32).map (Value.int .u8) ++ Z.toList.drop (0 + ((pt xs 0 32).map (Value.int .u8)).length)).toArray = gcells ⟨pt xs 0 32, 0, 0, 0⟩ := by
      apply Array.ext'
      rw [← hC0, gcells_toList, gcells_toList, List.length_map, l32]
      have e : (G0.z.map (Value.int .u8)).length = 0 + 32 := by simp [G0, zs_len]
      rw [List.drop_left' e]
      simp [G0]
    have hgo : goInt ((pt xs 0 32).map (Value.int .u8)).length = .int .i64 32 := by rw [List.length_map, l32]; rfl
    rw [hnew, hgo] at hrun
    have HRUN := Lib.hid hrun
    obtain ⟨C6, hc6⟩ : ∃ C, C = gcells ⟨pt xs 0 32, 0, 0, 0⟩ := ⟨_, rfl⟩
    rw [← hc6] at HRUN
    have HC6 := Lib.hid hc6
    rw [show (0 : Nat) + 32 = 32 from rfl, pt_next xs 32 8] at hr
    have R6 := Lib.hid (rx.RD.setRow hr C6 GN2.out.1 GN2.out.2.1)
    have B6 := Lib.hid (B5.out.trans (below_row (B := w.heap.size) (g := g5) _ C6 GN2.out.2.2.2.2))
    have GX6 : Hid ((W5.setRow g5 C6).heap[w.heap.size]? = some (.cells CX 47 (0, 0))) := (setRow_other _ _ _ _ GN2.out.2.2.1).trans GX5.out
    have GR6 : Hid ((W5.setRow g5 C6).heap[w.heap.size + 1]? = some (.cells Z 46 (0, 0))) := (setRow_other _ _ _ _ GN2.out.2.2.2.1).trans GR5.out
    have S6 : Hid ((W5.setRow g5 C6).heap[g5]? = some (.cells C6 46 (0, 0))) := setRow_heap _ _ _ _ _ _ S5.out
    have L32 := Lib.hid l32
    clear hrun hnew hgo hs hq hr hg l32 hc6 B4 B5 GX4 GX5 GR4 GR5 S4 S5 R4
    generalize W5.setRow g5 C6 = W6 at *
    refine wpAnyH_ready (rs := [4]) (by kernel_rfl) (by simp) ?_
    refine' AllReadyH.cons ?hoc4r (fun K hK => ?stc4r) AllReadyH.nil
    case hoc4r => (simp only [List.getElem?_toArray, List.getElem?_cons_succ, List.getElem?_cons_zero]; rfl)
    refine step_copy_run rfl (.tmp 15) (.tmp 17) 30 30 rfl rfl rfl rfl HRUN.out ?_
    refine hK.out _ _ trivial (fun hHeld => ?_)
    clear hK K hHeld hS
    try simp only [Act.put, List.setIfInBounds_toArray, List.set_cons_succ, List.set_cons_zero]
    refine wpAnyH_done (by kernel_rfl) ?_ _
    go_wp2_with fail
    refine (rx.rd64 g _ _ (pt_len _ _ _ (by rw [LX.out]; decide)) _ R6.out).mono ?_
    rintro e W7 ⟨he, hr, hg⟩
    obtain ⟨na, hna⟩ : ∃ n, n = numI (pt xs 32 8) := ⟨_, rfl⟩
    rw [← hna] at he
    subst he
    have Hna := Lib.hid hna
    clear hna
    have B7 := Lib.hid (BG B6.out hg)
    have GX7 := Lib.hid (row_kept hg GX6.out GN.out.1)
    have GR7 := Lib.hid (row_kept hg GR6.out GN.out.2.1)
    have S7 := Lib.hid (row_kept hg S6.out GN2.out.1)
    rw [show (32 : Nat) + 8 = 40 from rfl, pt_next xs 40 8] at hr
    have R7 := Lib.hid hr
    clear hr hg B6 GX6 GR6 S6 R6
    go_wp2_with fail
    refine (rx.rd64 g _ _ (pt_len _ _ _ (by rw [LX.out]; decide)) _ R7.out).mono ?_
    rintro e W8 ⟨he, hr, hg⟩
    obtain ⟨nb, hnb⟩ : ∃ n, n = numI (pt xs 40 8) := ⟨_, rfl⟩
    rw [← hnb] at he
    subst he
    have Hnb := Lib.hid hnb
    clear hnb
    have B8 := Lib.hid (BG B7.out hg)
    have GX8 := Lib.hid (row_kept hg GX7.out GN.out.1)
    have GR8 := Lib.hid (row_kept hg GR7.out GN.out.2.1)
    have S8 := Lib.hid (row_kept hg S7.out GN2.out.1)
    rw [show (40 : Nat) + 8 = 48 from rfl, pt_next xs 48 1] at hr
    have R8 := Lib.hid hr
    clear hr hg B7 GX7 GR7 S7 R7
    go_wp2_with fail
    refine (rx.rd8 g _ _ (pt_len _ _ _ (by rw [LX.out]; decide)) _ R8.out).mono ?_
    rintro e W9 ⟨he, hr, hg⟩
    obtain ⟨nc, hnc⟩ : ∃ n, n = numI (pt xs 48 1) := ⟨_, rfl⟩
    rw [← hnc] at he
    subst he
    have Hnc := Lib.hid hnc
    clear hnc
    have B9 := Lib.hid (BG B8.out hg)
    have GX9 := Lib.hid (row_kept hg GX8.out GN.out.1)
    have GR9 := Lib.hid (row_kept hg GR8.out GN.out.2.1)
    have S9 := Lib.hid (row_kept hg S8.out GN2.out.1)
    clear hr hg B8 GX8 GR8 S8 R8
    have hc := gcell (R := ⟨pt xs 0 32, 0, 0, 0⟩) L32.out (by have h := S9.out; rw [HC6.out] at h; exact h)
    have hs3 := gset ⟨pt xs 0 32, 0, 0, 0⟩ L32.out na nb nc
    rw [← HC6.out] at hs3
    have hCR : gR xs = ⟨pt xs 0 32, na, nb, nc⟩ := by
      unfold gR
      rw [← Hna.out, ← Hnb.out, ← Hnc.out]
    obtain ⟨CR, hcr⟩ : ∃ C, C = gcells (gR xs) := ⟨_, rfl⟩
    have c32 : W9.cell? ⟨g5, 32, none⟩ = some (.int .u64 0) := hc.1
    have f32 : W9.frozen? ⟨g5, 32, none⟩ = false := frozen_block S9.out 32
    obtain ⟨Ca, hCa⟩ : ∃ C, C = gcells ⟨pt xs 0 32, na, 0, 0⟩ := ⟨_, rfl⟩
    obtain ⟨Cb, hCb⟩ : ∃ C, C = gcells ⟨pt xs 0 32, na, nb, 0⟩ := ⟨_, rfl⟩
    have st1 : W9.setCell ⟨g5, 32, none⟩ (.int .u64 na) = W9.setRow g5 Ca := by rw [setCell_eq_setRow W9 g5 32 C6 46 (0, 0) _ S9.out, hs3.1, hCa]
    have S10 : (W9.setRow g5 Ca).heap[g5]? = some (.cells Ca 46 (0, 0)) := setRow_heap _ _ _ _ _ _ S9.out
    have c33 : (W9.setRow g5 Ca).cell? ⟨g5, 33, none⟩ = some (.int .u64 0) := (gcell (R := ⟨pt xs 0 32, na, 0, 0⟩) L32.out (by rw [← hCa]; exact S10)).2.1
    have f33 : (W9.setRow g5 Ca).frozen? ⟨g5, 33, none⟩ = false := frozen_block S10 33
    have st2 : (W9.setRow g5 Ca).setCell ⟨g5, 33, none⟩ (.int .u64 nb) = W9.setRow g5 Cb := by
      rw [setCell_eq_setRow (W9.setRow g5 Ca) g5 33 Ca 46 (0, 0) _ S10, hCa, hs3.2.1, ← hCa, setRow_setRow, hCb]
    have S11 : (W9.setRow g5 Cb).heap[g5]? = some (.cells Cb 46 (0, 0)) := setRow_heap _ _ _ _ _ _ S9.out
    have c34 : (W9.setRow g5 Cb).cell? ⟨g5, 34, none⟩ = some (.int .u8 0) := (gcell (R := ⟨pt xs 0 32, na, nb, 0⟩) L32.out (by rw [← hCb]; exact S11)).2.2
    have f34 : (W9.setRow g5 Cb).frozen? ⟨g5, 34, none⟩ = false := frozen_block S11 34
    have st3 : (W9.setRow g5 Cb).setCell ⟨g5, 34, none⟩ (.int .u8 nc) = W9.setRow g5 CR := by
      rw [setCell_eq_setRow (W9.setRow g5 Cb) g5 34 Cb 46 (0, 0) _ S11, hCb, hs3.2.2, ← hCb, setRow_setRow, hcr, hCR]
    have B12 := Lib.hid (B9.out.trans (below_row (B := w.heap.size) (g := g5) _ CR GN2.out.2.2.2.2))
    have GX12 : Hid ((W9.setRow g5 CR).heap[w.heap.size]? = some (.cells CX 47 (0, 0))) := (setRow_other _ _ _ _ GN2.out.2.2.1).trans GX9.out
    have GR12 : Hid ((W9.setRow g5 CR).heap[w.heap.size + 1]? = some (.cells Z 46 (0, 0))) := (setRow_other _ _ _ _ GN2.out.2.2.2.1).trans GR9.out
    have S12 : Hid ((W9.setRow g5 CR).heap[g5]? = some (.cells CR 46 (0, 0))) := setRow_heap _ _ _ _ _ _ S9.out
    have IR : Hid ((Try.prog.info? 46).map (·.size) = some CR.size) := by show _ = _; rw [hcr]; exact i46 LZ.out
    have OR : Hid (CR.all (·.oneCell') = true) := by show _ = _; rw [hcr]; exact one_gcells _
    have ZR : Hid (Z.size = CR.size) := by show _ = _; rw [← hC0, hcr, gcells_size (zs_len 32), gcells_size LZ.out]
    rw [← hcr] at WG YES
    clear hc hs3 hCR hcr hCa hCb S10 S11 B9 GX9 GR9 S9 HC6 HRUN
    generalize W9.setRow g5 CR = W12 at *
    generalize W9.setRow g5 Ca = W10 at *
    generalize W9.setRow g5 Cb = W11 at *
    go_wp2_with (refine wpList_load_row rfl 46 (.tmp 5) rfl g5 rfl 46 CR (0, 0) _ S12.out Try.underlying46 rfl IR.out ?_)
    refine (WG.out _).mono ?_
    rintro e W13 ⟨he, hb⟩
    have B13 := Lib.hid (B12.out.trans (hb.mono B12.out.size))
    have GX13 := Lib.hid ((hb.block _ (blk_lt GX12.out)).trans GX12.out)
    have GR13 := Lib.hid ((hb.block _ (blk_lt GR12.out)).trans GR12.out)
    have S13 := Lib.hid ((hb.block _ (blk_lt S12.out)).trans S12.out)
    have IV := Lib.hid (i47 BV.out.2)
    have OV := Lib.hid (one_cells (gV (gR xs)))
    have ZV : Hid (Z6.size = (bcells (gV (gR xs))).size) := by show _ = _; rw [← hC6]; exact bcells_sz (by rw [zs_len, BV.out.2])
    have hal : Below W13.heap.size W13 (W13.alloc (.cells (bcells (gV (gR xs))) 47)) := (Below.refl _ _).alloc (Nat.le_refl _) _
    have B14 := Lib.hid (B13.out.trans (hal.mono B13.out.size))
    have GX14 := Lib.hid ((hal.block _ (blk_lt GX13.out)).trans GX13.out)
    have GR14 := Lib.hid ((hal.block _ (blk_lt GR13.out)).trans GR13.out)
    have S14 := Lib.hid ((hal.block _ (blk_lt S13.out)).trans S13.out)
    have A13 := Lib.hid (heap_alloc_new W13 (.cells Z6 47))
    have V14 := Lib.hid (heap_alloc_new W13 (.cells (bcells (gV (gR xs))) 47))
    have E13 := Lib.hid (alloc_setRowT W13 Z6 (bcells (gV (gR xs))) 47 _ rfl)
    have QV : Hid (∀ W, (Op.equalIn 10000 47 (.agg (bcells (gV (gR xs)))) (.agg CX)).run Try.prog W = .ok (decide (gV (gR xs) = xs)) W) := fun W => by rw [← hCX]; exact eq47 _ _ BV.out.1 HX.out BV.out.2 LX.out W
    clear hb hal B12 GX12 GR12 S12 B13 GX13 GR13 S13 WG st1 st2 st3 c32 c33 c34 f32 f33 f34
    by_cases hm : (gR xs).k ≤ 1
    · obtain ⟨e0, e1⟩ := EY.out hm
      rw [e0] at he
      by_cases hq : gW (gR xs) = xs
      · have YES3 := Lib.hid (YES.out hm hq)
        have qv : ∀ W, (Op.equalIn 10000 47 (.agg (bcells (gV (gR xs)))) (.agg CX)).run Try.prog W = .ok true W := fun W => by rw [QV.out W, decide_eq_true (by rw [e1]; exact hq)]
        generalize bcells (gV (gR xs)) = CV at *
        subst he
        clear YES NO EY EN e0 e1 hm hq QV
        go_wp2_with (first
          | (refine wpList_store_row rfl 47 (.tmp 6) (.tmp 31) rfl W13.heap.size CV rfl rfl 47 Z6 A13.out IV.out ZV.out OV.out ?_; rw [E13.out])
          | (refine wpList_load_met' rfl 47 (.tmp 6) rfl W13.heap.size rfl 47 CV (0, 0) _ V14.out Try.underlying47 ⟨_, _, rfl⟩ IV.out ?_)
          | (refine wpList_load_met' rfl 47 (.tmp 1) rfl w.heap.size rfl 47 CX (0, 0) _ GX14.out Try.underlying47 ⟨_, _, rfl⟩ IX.out ?_)
          | (refine wpList_load_row rfl 46 (.tmp 5) rfl g5 rfl 46 CR (0, 0) _ S14.out Try.underlying46 rfl IR.out ?_)
          | (refine wpList_store_row rfl 46 (.tmp 2) (.tmp 41) rfl (w.heap.size + 1) CR rfl rfl 46 Z GR14.out IR.out ZR.out OR.out ?_))
        exact bodyPost_ret (v := .tuple #[.agg CR, .int .i64 0]) (results_cell_tmp Try.results21 _ _ (w.heap.size + 1) 46 CR (0, 0) _ rfl (setRow_heap _ _ _ _ _ _ GR14.out) Try.underlying46 rfl IR.out) rfl (YES3.out _ (B14.out.trans (below_row _ _ (by omega))))
      · have NO3 := Lib.hid (NO.out (fun h => hq h.2))
        have qv : ∀ W, (Op.equalIn 10000 47 (.agg (bcells (gV (gR xs)))) (.agg CX)).run Try.prog W = .ok false W := fun W => by rw [QV.out W, decide_eq_false (by rw [e1]; exact hq)]
        generalize bcells (gV (gR xs)) = CV at *
        subst he
        clear YES NO EY EN e0 e1 hm hq QV
        go_wp2_with (first
          | (refine wpList_store_row rfl 47 (.tmp 6) (.tmp 31) rfl W13.heap.size CV rfl rfl 47 Z6 A13.out IV.out ZV.out OV.out ?_; rw [E13.out])
          | (refine wpList_load_met' rfl 47 (.tmp 6) rfl W13.heap.size rfl 47 CV (0, 0) _ V14.out Try.underlying47 ⟨_, _, rfl⟩ IV.out ?_)
          | (refine wpList_load_met' rfl 47 (.tmp 1) rfl w.heap.size rfl 47 CX (0, 0) _ GX14.out Try.underlying47 ⟨_, _, rfl⟩ IX.out ?_)
          | (refine wpList_blank_met rfl 46 rfl (BZ.out _) ?_)
          | (refine wpList_store_row rfl 46 (.tmp 2) (.tmp 40) rfl (w.heap.size + 1) Z rfl rfl 46 Z GR14.out I0.out rfl O0.out ?_))
        exact bodyPost_ret (v := .tuple #[.agg Z, .int .i64 3]) (results_cell_tmp Try.results21 _ _ (w.heap.size + 1) 46 Z (0, 0) _ rfl (setRow_heap _ _ _ _ _ _ GR14.out) Try.underlying46 rfl I0.out) rfl (NO3.out _ (B14.out.trans (below_row _ _ (by omega))))
    · have NO3 := Lib.hid (NO.out (fun h => hm h.1))
      rw [EN.out (by omega)] at he
      generalize bcells (gV (gR xs)) = CV at *
      subst he
      clear YES NO EY EN hm QV
      go_wp2_with (first
        | (refine wpList_store_row rfl 47 (.tmp 6) (.tmp 31) rfl W13.heap.size CV rfl rfl 47 Z6 A13.out IV.out ZV.out OV.out ?_; rw [E13.out])
        | (refine wpList_blank_met rfl 46 rfl (BZ.out _) ?_)
        | (refine wpList_store_row rfl 46 (.tmp 2) (.tmp 40) rfl (w.heap.size + 1) Z rfl rfl 46 Z GR14.out I0.out rfl O0.out ?_))
      exact bodyPost_ret (v := .tuple #[.agg Z, .int .i64 3]) (results_cell_tmp Try.results21 _ _ (w.heap.size + 1) 46 Z (0, 0) _ rfl (setRow_heap _ _ _ _ _ _ GR14.out) Try.underlying46 rfl I0.out) rfl (NO3.out _ (B14.out.trans (below_row _ _ (by omega))))
end Go.Proofs.Ytplffbpnjnbolaa
