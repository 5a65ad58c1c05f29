/-
  Heads and registers there and back, as lists; two of them are compared as they read; what must come of fixed calls. Condition: the numbers fit their kinds.
-/
import Derived.Test.YtplffbpnjnbolaaSuE
namespace Go.Proofs.Ytplffbpnjnbolaa
open Go.RowKit
theorem eqFields_one (d : Nat) (t : TypeId) (o : Nat) (X Y : Array Value) (a b : Value) (q1 : Bool) (w : World) (e1 : (part t X o).run Try.prog w = .ok a w) (e2 : (part t Y o).run Try.prog w = .ok b w) (e3 : (Op.equalIn d t a b).run Try.prog w = .ok q1 w)
    (f : Field) (fs : List Field) (h1 : decide (f.name ≠ "_") = true) (h2 : f.type = t) (h3 : f.offset = o) (q : Bool) (h : (Op.eqFields d X Y fs).run Try.prog w = .ok q w) :
    (Op.eqFields d X Y (f :: fs)).run Try.prog w = .ok (q1 && q) w := by
  have h1' : f.name ≠ "_" := of_decide_eq_true h1
  subst h2 h3
  simp only [Op.eqFields, Sem.run_ite, Sem.run_bind, e1, e2, e3, Result.andThen_ok]
  rw [if_pos h1']
  cases q1 <;> simp [h]
theorem part_bool (t : TypeId) (hu : Try.prog.underlying t = some .bool) (X : Array Value) (o : Nat) (v : Value) (hx : X[o]? = some v) (w : World) : (part t X o).run Try.prog w = .ok v w := by
  simp [part, isAgg, run_underlying hu, hx]
theorem part_struct (t : TypeId) (fs : Array Field) (n : Nat) (hu : Try.prog.underlying t = some (.struct fs)) (hi : (Try.prog.info? t).map (·.size) = some n) (X : Array Value) (o : Nat) (cs : List Value) (hX : (X.toList.drop o).take n = cs) (w : World) :
    (part t X o).run Try.prog w = .ok (.agg cs.toArray) w := by
  have e : X.extract o (o + n) = cs.toArray := by
    apply Array.ext'
    rw [← hX]
    simp
  cases hq : Try.prog.info? t with
  | none => simp [hq] at hi
  | some i =>
    have hs : i.size = n := by simpa [hq] using hi
    simp [part, isAgg, run_underlying hu, sizeOf, typeInfo, hq, hs, e]
set_option maxRecDepth 100000 in
theorem eq29 (H : Hd) (hz : Byt H.z) (hl : H.z.length = 32) (w : World) : (Op.equalIn 10000 29 (.agg (hcells H)) (.agg (hcells H))).run Try.prog w = .ok true w := by
  rw [run_equalIn_struct w 9999 29 _ _ (by kernel_rfl) (by kernel_rfl)]
  have hf : (Try.prog.fieldsOf 29).toList.map (fun f => (decide (f.name ≠ "_"), f.type, f.offset)) = [(true, 22, 0), (true, 22, 1), (true, 4, 2), (true, 27, 3)] := by kernel_rfl
  obtain ⟨f1, r1, e1, a1, b1, c1, g1⟩ := fields_cons hf
  obtain ⟨f2, r2, e2, a2, b2, c2, g2⟩ := fields_cons g1
  obtain ⟨f3, r3, e3, a3, b3, c3, g3⟩ := fields_cons g2
  obtain ⟨f4, r4, e4, a4, b4, c4, g4⟩ := fields_cons g3
  have e5 : r4 = [] := by simpa using g4
  rw [e1, e2, e3, e4, e5]
  have x0 : (hcells H)[0]? = some (.int .u64 H.g) := by simp [hcells, Array.getElem?_append]
  have x1 : (hcells H)[1]? = some (.int .u64 H.e) := by simp [hcells, Array.getElem?_append]
  have x2 : (hcells H)[2]? = some (.bool H.h) := by simp [hcells, Array.getElem?_append]
  have x3 : ((hcells H).toList.drop 3).take 33 = rcells H.s H.z := by
    rw [hcells_toList]
    show (rcells H.s H.z).take 33 = _
    exact List.take_of_length_le (by simp [rcells, hl])
  have p4 := part_struct 27 (Try.prog.fieldsOf 27) 33 (by kernel_rfl) (by kernel_rfl) (hcells H) 3 _ x3 w
  have q4 := eq27d 9996 H.s H.s H.z H.z hz hz hl hl w
  rw [decide_eq_true (show H.s = H.s ∧ H.z = H.z from ⟨rfl, rfl⟩)] at q4
  rw [eqFields_int 9998 22 .u64 0 (by kernel_rfl) _ _ H.g H.g x0 x0 f1 _ a1 b1 c1 _ w
    (eqFields_int 9998 22 .u64 1 (by kernel_rfl) _ _ H.e H.e x1 x1 f2 _ a2 b2 c2 _ w
      (eqFields_one 9999 4 2 _ _ _ _ true w (part_bool 4 Try.underlying4 _ _ _ x2 w) (part_bool 4 Try.underlying4 _ _ _ x2 w) ((run_equalIn_bool' (P := Try.prog) w 9998 4 H.h H.h Try.underlying4).trans (by simp)) f3 _ a3 b3 c3 _
        (eqFields_one 9999 27 3 _ _ _ _ true w p4 p4 q4 f4 _ a4 b4 c4 _ (eqFields_nil _ _ _ _ w))))]
  simp
set_option maxRecDepth 100000 in
theorem eq46 (R S : Rg) (hz : Byt R.z) (hz' : Byt S.z) (hl : R.z.length = 32) (hl' : S.z.length = 32) (w : World) : (Op.equalIn 10000 46 (.agg (gcells R)) (.agg (gcells S))).run Try.prog w = .ok (decide (R.z = S.z ∧ R.g = S.g ∧ R.e = S.e ∧ R.k = S.k)) w := by
  rw [run_equalIn_struct w 9999 46 _ _ (by kernel_rfl) (by kernel_rfl)]
  have hf : (Try.prog.fieldsOf 46).toList.map (fun f => (decide (f.name ≠ "_"), f.type, f.offset)) = [(true, 25, 0), (true, 22, 32), (true, 22, 33), (true, 5, 34)] := by kernel_rfl
  obtain ⟨f1, r1, e1, a1, b1, c1, g1⟩ := fields_cons hf
  obtain ⟨f2, r2, e2, a2, b2, c2, g2⟩ := fields_cons g1
  obtain ⟨f3, r3, e3, a3, b3, c3, g3⟩ := fields_cons g2
  obtain ⟨f4, r4, e4, a4, b4, c4, g4⟩ := fields_cons g3
  have e5 : r4 = [] := by simpa using g4
  rw [e1, e2, e3, e4, e5]
  have y0 : ∀ R : Rg, R.z.length = 32 → ((gcells R).toList.drop 0).take 32 = R.z.map (Value.int .u8) := fun R h => by
    rw [gcells_toList]; exact List.take_left' (by simp [h])
  have y1 : ∀ R : Rg, R.z.length = 32 → (gcells R)[32]? = some (.int .u64 R.g) ∧ (gcells R)[33]? = some (.int .u64 R.e) ∧ (gcells R)[34]? = some (.int .u8 R.k) := fun R h => by
    refine ⟨?_, ?_, ?_⟩ <;>
    · rw [← Array.getElem?_toList, gcells_toList, List.getElem?_append_right (by simp [h])]
      simp [h]
  rw [eqFields_arr' 9997 25 32 0 (by kernel_rfl) (by kernel_rfl) _ _ R.z S.z (y0 R hl) (y0 S hl') hz hz' hl hl' f1 _ a1 b1 c1 _ w
    (eqFields_int 9998 22 .u64 32 (by kernel_rfl) _ _ R.g S.g (y1 R hl).1 (y1 S hl').1 f2 _ a2 b2 c2 _ w
      (eqFields_int 9998 22 .u64 33 (by kernel_rfl) _ _ R.e S.e (y1 R hl).2.1 (y1 S hl').2.1 f3 _ a3 b3 c3 _ w
        (eqFields_int 9998 5 .u8 34 (by kernel_rfl) _ _ R.k S.k (y1 R hl).2.2 (y1 S hl').2.2 f4 _ a4 b4 c4 _ w (eqFields_nil _ _ _ _ w))))]
  congr 1
  by_cases h1 : R.z = S.z <;> by_cases h2 : R.g = S.g <;> by_cases h3 : R.e = S.e <;> by_cases h4 : R.k = S.k <;> simp [h1, h2, h3, h4]
/-! ### There and back -/
theorem numI_be : ∀ (n : Nat) (v : Int), 0 ≤ v → v < 256 ^ n → numI (be n v) = v
  | 0, v, h0, h1 => by simp at h1; simp [be, numI]; omega
  | n + 1, v, h0, h1 => by
    rw [Int.pow_succ] at h1
    rw [be, numI_snoc, numI_be n (v / 256) (by omega) (by omega)]
    omega
theorem num_be8 {v : Int} (h : 0 ≤ v ∧ v ≤ 18446744073709551615) : numI (be 8 v) = v := by
  have e : (256 : Int) ^ 8 = 18446744073709551616 := by decide
  exact numI_be 8 v h.1 (by omega)
theorem num_be4 {v : Int} (h : 0 ≤ v ∧ v ≤ 4294967295) : numI (be 4 v) = v := by
  have e : (256 : Int) ^ 4 = 4294967296 := by decide
  exact numI_be 4 v h.1 (by omega)
theorem num_be1 {v : Int} (h : 0 ≤ v ∧ v ≤ 255) : numI (be 1 v) = v := by
  have e : (256 : Int) ^ 1 = 256 := by decide
  exact numI_be 1 v h.1 (by omega)
theorem pt_at (a b c : List Int) (o n : Nat) (ha : a.length = o) (hb : b.length = n) : pt (a ++ (b ++ c)) o n = b := by
  subst ha hb
  unfold pt
  rw [List.drop_left, List.take_left]
theorem hW_eq (H : Hd) : hW H = fr8 ++ (be 8 H.g ++ (be 8 H.e ++ (be 8 (b2i H.h) ++ (be 4 H.s ++ (H.z ++ zs 444))))) := by simp [hW, hB, hP]
theorem hW_pts {H : Hd} (hl : H.z.length = 32) : pt (hW H) 8 8 = be 8 H.g ∧ pt (hW H) 16 8 = be 8 H.e ∧ pt (hW H) 24 8 = be 8 (b2i H.h) ∧ pt (hW H) 32 4 = be 4 H.s ∧ pt (hW H) 36 32 = H.z := by
  rw [hW_eq]
  refine ⟨pt_at _ _ _ 8 8 rfl (be_len _ _), ?_, ?_, ?_, ?_⟩
  · rw [← List.append_assoc]; exact pt_at _ _ _ 16 8 (by simp [fr8, be_len]) (be_len _ _)
  · rw [← List.append_assoc, ← List.append_assoc]; exact pt_at _ _ _ 24 8 (by simp [fr8, be_len]) (be_len _ _)
  · rw [← List.append_assoc, ← List.append_assoc, ← List.append_assoc]; exact pt_at _ _ _ 32 4 (by simp [fr8, be_len]) (be_len _ _)
  · rw [← List.append_assoc, ← List.append_assoc, ← List.append_assoc, ← List.append_assoc]; exact pt_at _ _ _ 36 32 (by simp [fr8, be_len]) hl
theorem b2i_bd (h : Bool) : 0 ≤ b2i h ∧ b2i h ≤ 18446744073709551615 := by cases h <;> decide
theorem hR_hW {H : Hd} (h : H.ok) : hR (hW H) = H := by
  obtain ⟨hg, he, hs, hz, hl⟩ := h
  obtain ⟨p1, p2, p3, p4, p5⟩ := hW_pts hl
  unfold hR
  rw [p1, p2, p3, p4, p5, num_be8 hg, num_be8 he, num_be4 hs, num_be8 (b2i_bd _)]
  have : (b2i H.h == 1) = H.h := by cases H.h <;> rfl
  rw [this]
theorem hRe_hW {H : Hd} (h : H.ok) (hm : H.may) : hRe (hW H) = 0 := by
  unfold hRe
  rw [if_pos ⟨hW_len h.2.2.2.2, by rw [hR_hW h]; exact hm, by rw [hR_hW h]⟩]
theorem hRv_hW {H : Hd} (h : H.ok) (hm : H.may) : hRv (hW H) = H := by
  unfold hRv
  rw [if_pos (hRe_hW h hm), hR_hW h]
theorem gW_eq (R : Rg) : gW R = R.z ++ (be 8 R.g ++ (be 8 R.e ++ (be 1 R.k ++ zs 15))) := by simp [gW, gB, gP]
theorem gW_pts {R : Rg} (hl : R.z.length = 32) : pt (gW R) 0 32 = R.z ∧ pt (gW R) 32 8 = be 8 R.g ∧ pt (gW R) 40 8 = be 8 R.e ∧ pt (gW R) 48 1 = be 1 R.k := by
  rw [gW_eq]
  refine ⟨by unfold pt; rw [List.drop_zero]; exact List.take_left' hl, pt_at _ _ _ 32 8 hl (be_len _ _), ?_, ?_⟩
  · rw [← List.append_assoc]; exact pt_at _ _ _ 40 8 (by simp [hl, be_len]) (be_len _ _)
  · rw [← List.append_assoc, ← List.append_assoc]; exact pt_at _ _ _ 48 1 (by simp [hl, be_len]) (be_len _ _)
theorem gR_gW {R : Rg} (h : R.ok) : gR (gW R) = R := by
  obtain ⟨hg, he, hk, hz, hl⟩ := h
  obtain ⟨p1, p2, p3, p4⟩ := gW_pts hl
  unfold gR
  rw [p1, p2, p3, p4, num_be8 hg, num_be8 he, num_be1 hk]
theorem gW_G0 : gW G0 = zs 64 := by
  rw [gW_eq]
  rfl
theorem gW_zero {R : Rg} (h : R.ok) : gW R = zs 64 ↔ R = G0 := by
  refine ⟨fun e => ?_, fun e => by rw [e]; exact gW_G0⟩
  rw [← gR_gW h, e, ← gW_G0, gR_gW G0_ok]
theorem gRe_gW0 {R : Rg} (h : R.ok) (e : R = G0) : gRe (gW R) = 4 := by
  unfold gRe
  rw [if_pos ((gW_zero h).2 e)]
theorem gRe_gW {R : Rg} (h : R.ok) (hm : R.k ≤ 1) (e : R ≠ G0) : gRe (gW R) = 0 := by
  unfold gRe
  rw [if_neg (fun e' => e ((gW_zero h).1 e')), if_pos ⟨by rw [gR_gW h]; exact hm, by rw [gR_gW h]⟩]
theorem gRv_gW {R : Rg} (h : R.ok) (hm : R.k ≤ 1) : gRv (gW R) = R := by
  unfold gRv
  by_cases e : R = G0
  · rw [gRe_gW0 h e, if_neg (by decide), e]
  · rw [gRe_gW h hm e, if_pos rfl, gR_gW h]
/-! ### Fixed calls -/
def H3 : Hd := ⟨3, 0, false, 0, zs 32⟩
def R5 : Rg := ⟨zs 32, 5, 0, 1⟩
def R2 : Rg := ⟨zs 32, 0, 0, 2⟩
theorem H3_ok : H3.ok := ⟨⟨by decide, by decide⟩, ⟨by decide, by decide⟩, ⟨by decide, by decide⟩, zs_byt _, zs_len _⟩
theorem R5_ok : R5.ok := ⟨⟨by decide, by decide⟩, ⟨by decide, by decide⟩, ⟨by decide, by decide⟩, zs_byt _, zs_len _⟩
theorem R2_ok : R2.ok := ⟨⟨by decide, by decide⟩, ⟨by decide, by decide⟩, ⟨by decide, by decide⟩, zs_byt _, zs_len _⟩
theorem H3_may : H3.may := .inr ⟨rfl, rfl⟩
set_option maxRecDepth 100000 in
theorem bldH3 (w : World) : (Instr.build 29 #[(0, .int .u64 3)]).run Try.prog w = .ok (.agg (hcells H3)) w := by kernel_rfl
set_option maxRecDepth 100000 in
theorem bldR5 (w : World) : (Instr.build 46 #[(1, .int .u64 5), (3, .int .u8 1)]).run Try.prog w = .ok (.agg (gcells R5)) w := by kernel_rfl
set_option maxRecDepth 100000 in
theorem bldR2 (w : World) : (Instr.build 46 #[(3, .int .u8 2)]).run Try.prog w = .ok (.agg (gcells R2)) w := by kernel_rfl
theorem wpList_build2_run {ops : Array Oper} {rest : List Oper} {o : Oper} {a : Act} {w : World} {Q : Exit → Act → World → Prop} (hgd : o.guard = none) (t : TypeId) (i j : Nat) (x y : Operand)
    (ho : o.op = .build t #[(i, x), (j, y)]) {u1 u2 v : Value} (hx : a.eval x = u1) (hy : a.eval y = u2)
    (hr : (Instr.build t #[(i, u1), (j, u2)]).run Try.prog w = .ok v w) (h : wpList Try.prog ops Q rest (a.put o.dst v) w) : wpList Try.prog ops Q (o :: rest) a w := by
  refine wpList_plain hgd fun K hK => ?_
  unfold Oper.wp execOp
  simp only [ho, Sem.run_bind, Sem.run_pure, Result.andThen_ok, List.map_toArray, List.map_cons, List.map_nil, hx, hy, hr]
  exact hK _ _ h
set_option maxRecDepth 100000 in
set_option maxHeartbeats 8000000 in
theorem alive19 (w : World) : Calls Try.prog 11 #[] w fun e w' => e = .returned (.bool true) ∧ Below w.heap.size w w' := by
  have hz29 := z29
  have hz46 := z46
  have hz47 := z47
  have WH : Hid (∀ W, Calls Try.prog 12 #[.agg (hcells H3)] W fun e w' => ∃ v, e = .returned (.tuple #[v, .int .i64 0]) ∧ Sees w' v (hW H3) ∧ Below W.heap.size W w') := fun W => by
    have := writeH H3 H3_ok W
    unfold WriteHP hE hV at this
    rw [if_pos H3_may, if_pos H3_may] at this
    exact this
  have RH : Hid (∀ v W, Sees W v (hW H3) → Calls Try.prog 15 #[v] W fun e w' => e = .returned (.tuple #[.agg (hcells H3), .int .i64 0]) ∧ Below W.heap.size W w') := fun v W h => by
    have := readH v _ W h
    unfold ReadHP at this
    rw [hRe_hW H3_ok H3_may, hRv_hW H3_ok H3_may] at this
    exact this
  have RG : Hid (∀ W, Calls Try.prog 21 #[.agg (bcells (zs 64))] W fun e w' => e = .returned (.tuple #[.agg (gcells G0), .int .i64 4]) ∧ Below W.heap.size W w') := fun W => by
    have := readG (zs 64) (zs_byt _) (zs_len _) W
    unfold ReadGP gRv at this
    have e4 : gRe (zs 64) = 4 := if_pos rfl
    rw [e4, if_neg (by decide)] at this
    exact this
  have W5 : Hid (∀ W, Calls Try.prog 18 #[.agg (gcells R5)] W fun e w' => e = .returned (.tuple #[.agg (bcells (gW R5)), .int .i64 0]) ∧ Below W.heap.size W w') := fun W => by
    have := writeG R5 R5_ok W
    unfold WriteGP gE gV at this
    rw [if_pos (by decide), if_pos (by decide)] at this
    exact this
  have W2 : Hid (∀ W, Calls Try.prog 18 #[.agg (gcells R2)] W fun e w' => e = .returned (.tuple #[.agg (bcells (zs 64)), .int .i64 3]) ∧ Below W.heap.size W w') := fun W => by
    have := writeG R2 R2_ok W
    unfold WriteGP gE gV at this
    rw [if_neg (by decide), if_neg (by decide)] at this
    exact this
  have LW := Lib.hid (hW_len (H := H3) (zs_len 32))
  have N0 : Hid (nth (hW H3) 0 = 67 ∧ nth (hW H3) 15 = 3 ∧ nth (gW R5) 39 = 5 ∧ nth (gW R5) 48 = 1) := ⟨by decide +kernel, by decide +kernel, by decide +kernel, by decide +kernel⟩
  have LG := Lib.hid (gW_len (R := R5) (zs_len 32))
  have GC : Hid (∀ (W : World) (b : Nat), W.heap[b]? = some (.cells (bcells (gW R5)) 47 (0, 0)) → W.cell? ⟨b, 39, none⟩ = some (.int .u8 5) ∧ W.cell? ⟨b, 48, none⟩ = some (.int .u8 1)) := fun W b h => by
    rw [cell_of_row _ _ _ _ _ _ h, cell_of_row _ _ _ _ _ _ h, ← Array.getElem?_toList, ← Array.getElem?_toList, bcells_toList]
    have e1 : (gW R5)[39]? = some 5 := by decide +kernel
    have e2 : (gW R5)[48]? = some 1 := by decide +kernel
    simp [e1, e2]
  have BH := Lib.hid bldH3
  have B5 := Lib.hid bldR5
  have B2 := Lib.hid bldR2
  have BY := Lib.hid bld47
  have I3 := Lib.hid (i29 H3_ok.2.2.2.2)
  have O3 := Lib.hid (one_hcells H3)
  have ZH : Hid ((hcells H0).size = (hcells H3).size) := by show _ = _; rw [hcells_size (zs_len 32), hcells_size (zs_len 32)]
  have IG := Lib.hid (i46 (R := G0) (zs_len 32))
  have OG := Lib.hid (one_gcells G0)
  have I5 := Lib.hid (i47 LG.out)
  have O5 := Lib.hid (one_cells (gW R5))
  have Z5 := Lib.hid (bcells_sz (show (zs 64).length = (gW R5).length by rw [zs_len, LG.out]))
  have I6 := Lib.hid (i47 (zs_len 64))
  have O6 := Lib.hid (one_cells (zs 64))
  have eqh := eq29 H3 H3_ok.2.2.2.1 H3_ok.2.2.2.2
  generalize hW H3 = XW at *
  generalize hcells H3 = CH at *
  generalize hcells H0 = ZH0 at *
  generalize gcells G0 = ZG at *
  generalize bcells (gW R5) = C5 at *
  generalize gcells R5 = CR5 at *
  generalize gcells R2 = CR2 at *
  generalize bcells (zs 64) = Z6 at *
  have B0 : Hid (Below w.heap.size w w) := Below.refl _ _
  go_enter Try.func11, Try.ntmps11
  go_wp2_with (refine wpList_build_run (u := .int .u64 3) rfl 29 0 (.const (.int .u64 3)) rfl rfl (BH.out _) ?_)
  refine (WH.out _).mono ?_
  rintro e w1 ⟨v1, rfl, hs, hb⟩
  have B0 := Lib.hid (B0.out.trans (hb.mono B0.out.size))
  have S1 := Lib.hid hs
  obtain ⟨_, ⟨_, hnil⟩ | ⟨_, _, _, hnil, _⟩ | ⟨b1, o1, c1, rfl, _⟩⟩ := id hs
  · have := LW.out; rw [hnil] at this; simp at this
  · have := LW.out; rw [hnil] at this; simp at this
  rw [LW.out] at S1 ⊢
  clear hs
  clear hb
  go_wp2_with fail
  refine (RH.out _ _ S1.out).mono ?_
  rintro e w2 ⟨rfl, hb⟩
  have B0 := Lib.hid (B0.out.trans (hb.mono B0.out.size))
  have S1 := Lib.hid (S1.out.below hb)
  clear hb
  have Av2 := Lib.hid (heap_alloc_new w2 (.cells ZH0 29))
  have Ev2 := Lib.hid (alloc_setRowT w2 ZH0 CH 29 _ rfl)
  have Q1 := Lib.hid (heap_alloc_new w2 (.cells CH 29))
  have halv2 : Below w2.heap.size w2 (w2.alloc (.cells CH 29)) := (Below.refl _ _).alloc (Nat.le_refl _) _
  have B0 := Lib.hid (B0.out.trans (halv2.mono B0.out.size))
  have S1 := Lib.hid (S1.out.below halv2)
  clear halv2
  go_wp2_with (first
    | (refine wpList_store_row rfl 29 (.tmp 3) (.tmp 19) rfl w2.heap.size CH rfl rfl 29 ZH0 Av2.out I3.out ZH.out O3.out ?_; rw [Ev2.out])
    | (refine wpList_blank_met rfl 47 rfl (BY.out _) ?_))
  clear Av2 Ev2
  generalize w2.alloc (.cells CH 29) = v2 at *
  generalize w2.heap.size = gv2 at *
  refine (RG.out _).mono ?_
  rintro e w3 ⟨rfl, hb⟩
  have B0 := Lib.hid (B0.out.trans (hb.mono B0.out.size))
  have S1 := Lib.hid (S1.out.below hb)
  have Q1 := Lib.hid ((hb.block _ (blk_lt Q1.out)).trans Q1.out)
  clear hb
  have Av3 := Lib.hid (heap_alloc_new w3 (.cells ZG 46))
  have Ev3 := Lib.hid (alloc_setRowT w3 ZG ZG 46 _ rfl)
  have Q2 := Lib.hid (heap_alloc_new w3 (.cells ZG 46))
  have halv3 : Below w3.heap.size w3 (w3.alloc (.cells ZG 46)) := (Below.refl _ _).alloc (Nat.le_refl _) _
  have B0 := Lib.hid (B0.out.trans (halv3.mono B0.out.size))
  have S1 := Lib.hid (S1.out.below halv3)
  have Q1 := Lib.hid ((halv3.block _ (blk_lt Q1.out)).trans Q1.out)
  clear halv3
  go_wp2_with (first
    | (refine wpList_store_row rfl 46 (.tmp 5) (.tmp 24) rfl w3.heap.size ZG rfl rfl 46 ZG Av3.out IG.out rfl OG.out ?_; rw [Ev3.out])
    | (refine wpList_build2_run (u1 := .int .u64 5) (u2 := .int .u8 1) rfl 46 1 3 (.const (.int .u64 5)) (.const (.int .u8 1)) rfl rfl rfl (B5.out _) ?_))
  clear Av3 Ev3
  generalize w3.alloc (.cells ZG 46) = v3 at *
  generalize w3.heap.size = gv3 at *
  refine (W5.out _).mono ?_
  rintro e w4 ⟨rfl, hb⟩
  have B0 := Lib.hid (B0.out.trans (hb.mono B0.out.size))
  have S1 := Lib.hid (S1.out.below hb)
  have Q1 := Lib.hid ((hb.block _ (blk_lt Q1.out)).trans Q1.out)
  have Q2 := Lib.hid ((hb.block _ (blk_lt Q2.out)).trans Q2.out)
  clear hb
  have Av4 := Lib.hid (heap_alloc_new w4 (.cells Z6 47))
  have Ev4 := Lib.hid (alloc_setRowT w4 Z6 C5 47 _ rfl)
  have Q3 := Lib.hid (heap_alloc_new w4 (.cells C5 47))
  have halv4 : Below w4.heap.size w4 (w4.alloc (.cells C5 47)) := (Below.refl _ _).alloc (Nat.le_refl _) _
  have B0 := Lib.hid (B0.out.trans (halv4.mono B0.out.size))
  have S1 := Lib.hid (S1.out.below halv4)
  have Q1 := Lib.hid ((halv4.block _ (blk_lt Q1.out)).trans Q1.out)
  have Q2 := Lib.hid ((halv4.block _ (blk_lt Q2.out)).trans Q2.out)
  clear halv4
  go_wp2_with (first
    | (refine wpList_store_row rfl 47 (.tmp 7) (.tmp 29) rfl w4.heap.size C5 rfl rfl 47 Z6 Av4.out I5.out Z5.out O5.out ?_; rw [Ev4.out])
    | (refine wpList_build_run (u := .int .u8 2) rfl 46 3 (.const (.int .u8 2)) rfl rfl (B2.out _) ?_))
  clear Av4 Ev4
  generalize w4.alloc (.cells C5 47) = v4 at *
  generalize w4.heap.size = gv4 at *
  refine (W2.out _).mono ?_
  rintro e w5 ⟨rfl, hb⟩
  have B0 := Lib.hid (B0.out.trans (hb.mono B0.out.size))
  have S1 := Lib.hid (S1.out.below hb)
  have Q1 := Lib.hid ((hb.block _ (blk_lt Q1.out)).trans Q1.out)
  have Q2 := Lib.hid ((hb.block _ (blk_lt Q2.out)).trans Q2.out)
  have Q3 := Lib.hid ((hb.block _ (blk_lt Q3.out)).trans Q3.out)
  clear hb
  have SW := Lib.hid (S1.out.below ((Below.refl _ _).alloc (Nat.le_refl _) (.cells Z6 47)))
  have l0 := SW.out.cell 0 (by rw [LW.out]; decide)
  have l15 := SW.out.cell 15 (by rw [LW.out]; decide)
  rw [N0.out.1] at l0
  rw [N0.out.2.1] at l15
  simp only [Nat.add_zero] at l0
  have Q3n : Hid ((w5.alloc (.cells Z6 47)).heap[gv4]? = some (.cells C5 47 (0, 0))) := (((Below.refl w5.heap.size w5).alloc (Nat.le_refl _) (.cells Z6 47)).block _ (blk_lt Q3.out)).trans Q3.out
  have Q1n : Hid ((w5.alloc (.cells Z6 47)).heap[gv2]? = some (.cells CH 29 (0, 0))) := (((Below.refl w5.heap.size w5).alloc (Nat.le_refl _) (.cells Z6 47)).block _ (blk_lt Q1.out)).trans Q1.out
  obtain ⟨l39, l48⟩ := GC.out _ _ Q3n.out
  clear SW
  have Av5 := Lib.hid (heap_alloc_new w5 (.cells Z6 47))
  have Ev5 := Lib.hid (alloc_setRowT w5 Z6 Z6 47 _ rfl)
  have Q4 := Lib.hid (heap_alloc_new w5 (.cells Z6 47))
  have halv5 : Below w5.heap.size w5 (w5.alloc (.cells Z6 47)) := (Below.refl _ _).alloc (Nat.le_refl _) _
  have B0 := Lib.hid (B0.out.trans (halv5.mono B0.out.size))
  have S1 := Lib.hid (S1.out.below halv5)
  have Q1 := Lib.hid ((halv5.block _ (blk_lt Q1.out)).trans Q1.out)
  have Q2 := Lib.hid ((halv5.block _ (blk_lt Q2.out)).trans Q2.out)
  have Q3 := Lib.hid ((halv5.block _ (blk_lt Q3.out)).trans Q3.out)
  clear halv5
  go_wp2_with (first
    | (refine wpList_store_row rfl 47 (.tmp 9) (.tmp 34) rfl w5.heap.size Z6 rfl rfl 47 Z6 Av5.out I6.out rfl O6.out ?_; rw [Ev5.out])
    | (refine wpList_load_met rfl 29 (.tmp 3) rfl gv2 rfl 29 CH (0, 0) _ Q1n.out Try.underlying29 ⟨_, rfl⟩ I3.out ?_)
    | (refine wpList_build_met (u := .int .u64 3) rfl 29 0 (.const (.int .u64 3)) rfl rfl (BH.out _) ?_))
  clear Av5 Ev5
  generalize w5.alloc (.cells Z6 47) = v5 at *
  generalize w5.heap.size = gv5 at *
  go_ret
  exact ⟨rfl, B0.out⟩
end Go.Proofs.Ytplffbpnjnbolaa
