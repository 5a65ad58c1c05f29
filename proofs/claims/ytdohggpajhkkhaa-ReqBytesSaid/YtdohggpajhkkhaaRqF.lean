/-
  The contract of req.read: the request of a kind whose fields come next. Condition: the reader is one that Read made.
-/
import Derived.Test.YtdohggpajhkkhaaRqE
import Derived.Deep.DeepCutAuto
namespace Go.Proofs.Ytdohggpajhkkhaa
open Go.RowKit
/-- A value that leads to new memory, if to any. -/
def FreshV (b : Nat) (v : Value) : Prop := ∀ k, v.ownBlock = some k → b ≤ k
theorem rd_mods {S : Nat → Prop} {w w' : World} {g : Nat} {xs : List Int} {s : Bool} (h : rx.RD w g xs s) (hm : Mods S w w') (h1 : ¬ S g) (h2 : ∀ b, b + 1 = g → ¬ S b) : rx.RD w' g xs s := by
  obtain ⟨hx, b, o, cap, hg, hne, hl, hc, hcs⟩ := h
  have hgl := blk_lt hg
  exact ⟨hx, b, o, cap, (hm.block g hgl h1).trans hg, hne, hl, hc, fun i hi => (World.cell?_of_block (hm.block b (by omega) (h2 b hne))).trans (hcs i hi)⟩
theorem sees_mods {S : Nat → Prop} {w w' : World} {v : Value} {xs : List Int} (h : Sees w v xs) (hm : Mods S w w') (h1 : ∀ k, v.ownBlock = some k → ¬ S k) : Sees w' v xs := by
  obtain ⟨hx, h2 | h2 | ⟨b, o, cap, rfl, hne, hl, hc, hcs⟩⟩ := h
  · exact ⟨hx, .inl h2⟩
  · exact ⟨hx, .inr (.inl h2)⟩
  · refine ⟨hx, .inr (.inr ⟨b, o, cap, rfl, hne, hl, hc, fun i hi => ?_⟩)⟩
    exact (World.cell?_of_block (hm.block b (World.block_lt_of_cell? w _ (hcs i hi)) (h1 b rfl))).trans (hcs i hi)
theorem mods_row {S : Nat → Prop} {w w' : World} {b : Nat} {o : Obj} (h : w.heap[b]? = some o) (hm : Mods S w w') (h1 : ¬ S b) : w'.heap[b]? = some o := (hm.block b (blk_lt h) h1).trans h
/-- The world while a request is read. -/
def SR (w : World) (g : Nat) (Z : Array Value) (a0 : RT) (s : ByteArray) (k : Nat) (W : World) : Prop :=
  ∃ a dv, a = runR ((lets s).take k) a0 ∧ RTok a ∧ W.heap[w.heap.size + 2]? = some (.cells (rc a.1 dv).toArray 26 (0, 0)) ∧ W.heap[w.heap.size]? = some (.cells #[.pointer (some ⟨g, 0, none⟩)] 58 (0, 0)) ∧
    W.heap[w.heap.size + 1]? = some (.cells Z 26 (0, 0)) ∧ rx.RD W g a.2.1 a.2.2 ∧ Mods (fun k => k = g) w W ∧ Sees W dv a.1.d ∧ FreshV (w.heap.size + 4) dv ∧ w.heap.size + 4 ≤ W.heap.size
section
variable {w W : World} {g : Nat} {Z : Array Value} {a0 : RT} {s : ByteArray} {k : Nat}
theorem SR.iter (h : SR w g Z a0 s k W) (hg : g < w.heap.size) (n : Nat) : SR w g Z a0 s k (W.iterAt (w.heap.size + 3) s n) := by
  obtain ⟨a, dv, h1, h2, h3, h4, h5, h6, h7, h8, h9, h10⟩ := h
  have hm := Mods.of_grown (grownBy_iterAt W (w.heap.size + 3) s n)
  refine ⟨a, dv, h1, h2, mods_row h3 hm ?_, mods_row h4 hm ?_, mods_row h5 hm ?_, rd_mods h6 hm ?_ ?_, h7.trans hm ?_, sees_mods h8 hm ?_, h9, Nat.le_trans h10 hm.size⟩
  · intro e; have := Option.some.inj e; omega
  · intro e; have := Option.some.inj e; omega
  · intro e; have := Option.some.inj e; omega
  · intro e; have := Option.some.inj e; omega
  · intro b hb e; have := Option.some.inj e; omega
  · intro b e; have := Option.some.inj e; right; omega
  · intro b hb e; have := Option.some.inj e; have := h9 _ hb; omega
theorem SR.step {e : Ending} {w' : World} {a : RT} {dv' : Value} {l : Nat} {C : Array Value} {xs : List Int} {s1 : Bool} {n : Int} (hl : ∃ h : k < s.size, (s[k]'h).toNat = l) (hg : g < w.heap.size)
    (h1 : a = runR ((lets s).take k) a0) (h2 : RTok a) (h4 : W.heap[w.heap.size]? = some (.cells #[.pointer (some ⟨g, 0, none⟩)] 58 (0, 0))) (h5 : W.heap[w.heap.size + 1]? = some (.cells Z 26 (0, 0))) (h7 : Mods (fun k => k = g) w W) (h10 : w.heap.size + 4 ≤ W.heap.size)
    (hF : FldP W (w.heap.size + 2) g C xs s1 n e w') (hC : C = (rc (stR l a).1 dv').toArray) (hst : (stR l a).2 = (rst xs s1 n, shrt xs.length s1 n)) (h8 : Sees w' dv' (stR l a).1.d) (h9 : FreshV (w.heap.size + 4) dv') :
    Stp (SR w g Z a0 s) (w.heap.size + 3) k W e w' := by
  obtain ⟨rfl, f1, f2, f3⟩ := hF
  subst hC
  refine ⟨rfl, ⟨stR l a, dv', ?_, stR_ok h2, f1, mods_row h4 f3 ?_, mods_row h5 f3 ?_, ?_, h7.trans f3 ?_, h8, h9, Nat.le_trans h10 f3.size⟩, f3.block _ (by omega) ?_⟩
  · rw [run_succ s k l hl, h1]
  · rintro (e | e) <;> omega
  · rintro (e | e) <;> omega
  · rw [hst]; exact f2
  · rintro b (e | e)
    · exact .inl e
    · right; omega
  · rintro (e | e) <;> omega
end
/-- What read tells. -/
def ReadQ (w : World) (g : Nat) (a : RT) (e : Ending) (w' : World) : Prop :=
  ∃ dv, e = .returned (.agg (rc a.1 dv).toArray) ∧ RTok a ∧ rx.RD w' g a.2.1 a.2.2 ∧ Mods (fun k => k = g) w w' ∧ Sees w' dv a.1.d ∧ FreshV w.heap.size dv
theorem runR_ok (ls : List Nat) {a : RT} (h : RTok a) : RTok (runR ls a) := by
  induction ls generalizing a with
  | nil => exact h
  | cons l r ih => exact ih (stR_ok h)
theorem z26 (w : World) : (zeroValue 26).run Try.prog w = .ok (.agg (rc (pz 0) (.slice none 0 0)).toArray) w := by kernel_rfl
theorem b26 (k : Int) (w : World) : (Instr.build 26 #[(0, .int .i64 k)]).run Try.prog w = .ok (.agg (rc (pz k) (.slice none 0 0)).toArray) w := by kernel_rfl
theorem rc_one {p : Rq} {dv : Value} (h : dv.oneCell' = true) : (rc p dv).toArray.all (·.oneCell') = true := by
  simp only [rc, h9, List.all_toArray, List.all_append, List.all_cons, List.all_nil, h]
  simp [kb, Value.oneCell']
theorem Sees.one {w : World} {v : Value} {xs : List Int} (h : Sees w v xs) : v.oneCell' = true := by
  obtain ⟨x, c, rfl, _⟩ := h.form
  rfl
theorem wpList_alloc_z {ops : Array Oper} {rest : List Oper} {o : Oper} {a : Act} {w : World} {Q : Exit → Act → World → Prop} (hgd : o.guard = none) (t : TypeId) (ho : o.op = .alloc t) {cs : Array Value} (hz : (zeroValue t).run Try.prog w = .ok (.agg cs) w)
    (h : wpList Try.prog ops Q rest (a.put o.dst (.pointer (some ⟨w.heap.size, 0, none⟩))) (w.alloc (.cells cs t))) : wpList Try.prog ops Q (o :: rest) a w := by
  refine wpList_plain hgd fun K hK => ?_
  unfold Oper.wp
  simp [execOp, ho, Instr.alloc, hz, Result.andThen, Oper.upon]
  exact hK _ _ h
theorem results_cell1 {P : Program} {fn : Func} {p : Tmp} {ty : TypeId} (h : fn.results = #[.cell p ty]) (tmps : Array Value) (w : World) (g : Nat) (t : TypeId) (cs : Array Value) (fr : Nat × Nat) (d : TypeDesc)
    (hp : tmps.getD p undef = .pointer (some ⟨g, 0, none⟩)) (hg : w.heap[g]? = some (.cells cs t fr))
    (hu : P.underlying ty = some d) (hd : (match d with | .struct _ | .array _ _ => true | _ => false) = true) (hi : (P.info? ty).map (·.size) = some cs.size) :
    (results fn tmps).run P w = .ok (.agg cs) w := by
  have hp' : tmps[p]?.getD undef = .pointer (some ⟨g, 0, none⟩) := by simpa using hp
  simp [results, h, hp', asAddr, run_loadVar_row w g t ty cs fr d hg hu hd hi]
set_option maxRecDepth 100000 in
set_option maxHeartbeats 400000 in
theorem read (kd : Int) (hkd : i64 kd) (g : Nat) (xs : List Int) (s0 : Bool) (hl : xs.length ≤ 10000) (w : World) (hr : rx.RD w g xs s0) :
    Calls Try.prog 26 #[.int .i64 kd, .pointer (some ⟨g, 0, none⟩)] w (ReadQ w g (runR (lets (letS kd)) (pz kd, xs, s0))) := by
  obtain ⟨Z, hZ⟩ : ∃ Z, Z = (rc (pz 0) (.slice none 0 0)).toArray := ⟨_, rfl⟩
  obtain ⟨C, hC⟩ : ∃ C, C = (rc (pz kd) (.slice none 0 0)).toArray := ⟨_, rfl⟩
  have z := z26
  have hb := b26 kd
  rw [← hZ] at z
  rw [← hC] at hb
  have i0 := i26 (pz_ok (k := 0) (by unfold i64; omega)) (.slice none 0 0)
  have i1 := i26 (pz_ok hkd) (.slice none 0 0)
  rw [← hZ] at i0
  rw [← hC] at i1
  have hg := hr.lt
  obtain ⟨w1, hw1⟩ : ∃ w1, w1 = w.alloc (.cells #[.pointer (some ⟨g, 0, none⟩)] 58) := ⟨_, rfl⟩
  obtain ⟨w2, hw2⟩ : ∃ w2, w2 = w1.alloc (.cells Z 26) := ⟨_, rfl⟩
  obtain ⟨w3, hw3⟩ : ∃ w3, w3 = w2.alloc (.cells C 26) := ⟨_, rfl⟩
  have z1 : w1.heap.size = w.heap.size + 1 := by rw [hw1]; simp
  have z2 : w2.heap.size = w.heap.size + 2 := by rw [hw2]; simp [z1]
  have z3 : w3.heap.size = w.heap.size + 3 := by rw [hw3]; simp [z2]
  have b1 : Below w.heap.size w w1 := by rw [hw1]; exact (Below.refl _ _).alloc (Nat.le_refl _) _
  have b2 : Below w1.heap.size w1 w2 := by rw [hw2]; exact (Below.refl _ _).alloc (Nat.le_refl _) _
  have b3 : Below w2.heap.size w2 w3 := by rw [hw3]; exact (Below.refl _ _).alloc (Nat.le_refl _) _
  have g1 : w1.heap[w.heap.size]? = some (.cells #[.pointer (some ⟨g, 0, none⟩)] 58 (0, 0)) := by rw [hw1]; exact heap_alloc_new w _
  have g2 : w2.heap[w.heap.size + 1]? = some (.cells Z 26 (0, 0)) := by rw [hw2, ← z1]; exact heap_alloc_new w1 _
  have g3 : w3.heap[w.heap.size + 2]? = some (.cells C 26 (0, 0)) := by rw [hw3, ← z2]; exact heap_alloc_new w2 _
  obtain ⟨s, hs⟩ : ∃ s, s = letS kd := ⟨_, rfl⟩
  have b4 : Below w3.heap.size w3 (w3.iter s 0) := (Below.refl _ _).alloc (Nat.le_refl _) _
  have z4 : (w3.iter s 0).heap.size = w.heap.size + 4 := by simp [World.iter, z3]
  have bb : Below w.heap.size w (w3.iter s 0) := (b1.trans (b2.mono (by omega))).trans ((b3.mono (by omega)).trans (b4.mono (by omega)))
  have S0 : SR w g Z (pz kd, xs, s0) s 0 (w3.iter s 0) := by
    refine ⟨(pz kd, xs, s0), .slice none 0 0, by simp [runR], ⟨pz_ok hkd, hr.1, hl⟩, ?_, ?_, ?_, hr.below bb, Mods.of_below bb, sees_nil _, fun k e => (by simp [Value.ownBlock] at e), by omega⟩
    · rw [b4.block _ (by omega)]; rw [hC] at g3; exact g3
    · rw [b4.block _ (by omega), b3.block _ (by omega), b2.block _ (by omega)]; exact g1
    · rw [b4.block _ (by omega), b3.block _ (by omega)]; exact g2
  have EA := eachR (w.heap.size + 2) w.heap.size s (by rw [hs]; exact let_ok kd) w3 (SR w g Z (pz kd, xs, s0) s) S0 (fun k n W h _ => by rw [z3]; exact h.iter hg _)
    (fun k W l h hl hn => by
      rw [z3]
      obtain ⟨a, dv, h1, h2, h3, h4, h5, h6, h7, h8, h9, h10⟩ := h
      have hw : widN l = 1 ∨ widN l = 2 := by unfold widN; split <;> (try split) <;> (try split) <;> simp
      have e1 : stR l a = (setN a.1 l (numI (got a.2.1 a.2.2 (widN l))), rst a.2.1 a.2.2 (widN l), shrt a.2.1.length a.2.2 (widN l)) := if_pos hn
      have hoff : offL l < (rc a.1 dv).toArray.size := by
        have := rc_num hn a.1 dv
        rw [List.size_toArray]
        exact (List.getElem?_eq_some_iff.1 this).1
      have hsd : ∀ z, (setN a.1 l z).d = a.1.d := fun z => by rcases isN_cases hn with rfl | rfl | rfl | rfl | rfl | rfl | rfl | rfl <;> rfl
      rcases hw with hw | hw
      · rw [hw] at e1 ⊢
        refine (read1 (w.heap.size + 2) (offL l) g w.heap.size _ _ _ W h6 h4 h3 hoff (by omega)).mono fun e w' hh => SR.step hl hg h1 h2 h4 h5 h7 h10 hh (dv' := dv) ?_ (by rw [e1]; rfl) ?_ h9
        · rw [e1]; exact rc_setN hn _ _ _
        · rw [e1, hsd]
          exact sees_mods h8 hh.2.2.2 (fun b hb hx => by have := h9 _ hb; omega)
      · rw [hw] at e1 ⊢
        refine (read2 (w.heap.size + 2) (offL l) g w.heap.size _ _ _ W h6 h4 h3 hoff (by omega)).mono fun e w' hh => SR.step hl hg h1 h2 h4 h5 h7 h10 hh (dv' := dv) ?_ (by rw [e1]; rfl) ?_ h9
        · rw [e1]; exact rc_setN hn _ _ _
        · rw [e1, hsd]
          exact sees_mods h8 hh.2.2.2 (fun b hb hx => by have := h9 _ hb; omega))
    (fun k W l h hl hk => by
      rw [z3]
      obtain ⟨a, dv, h1, h2, h3, h4, h5, h6, h7, h8, h9, h10⟩ := h
      have hn : ¬ isN l = true := by rcases isK_cases hk with rfl | rfl | rfl | rfl <;> decide
      have e1 : stR l a = (setK a.1 l (got a.2.1 a.2.2 32 ++ (keyL a.1 l).drop (got a.2.1 a.2.2 32).length), rst a.2.1 a.2.2 32, shrt a.2.1.length a.2.2 32) := by unfold stR; rw [if_neg hn, if_pos hk]
      have hoff : offL l + 32 ≤ (rc a.1 dv).toArray.size := by rw [List.size_toArray, rc_len h2.1]; rcases isK_cases hk with rfl | rfl | rfl | rfl <;> decide
      have hsd : ∀ z, (setK a.1 l z).d = a.1.d := fun z => by rcases isK_cases hk with rfl | rfl | rfl | rfl <;> rfl
      refine (readK (w.heap.size + 2) (offL l) g w.heap.size _ _ _ (Nat.le_trans h2.2.2 (by omega)) W h6 h4 h3 hoff (by omega)).mono fun e w' hh => SR.step hl hg h1 h2 h4 h5 h7 h10 hh (dv' := dv) ?_ (by rw [e1]) ?_ h9
      · rw [e1]; exact rc_setK hk h2.1 _ _ (got_le _ _ 32)
      · rw [e1, hsd]
        exact sees_mods h8 hh.2.2.2 (fun b hb hx => by have := h9 _ hb; omega))
    (fun k W h hl => by
      rw [z3]
      obtain ⟨a, dv, h1, h2, h3, h4, h5, h6, h7, h8, h9, h10⟩ := h
      have e1 : stR 100 a = ({ a.1 with d := got a.2.1 a.2.2 a.2.1.length }, rst a.2.1 a.2.2 a.2.1.length, shrt a.2.1.length a.2.2 a.2.1.length) := rfl
      refine (readD (w.heap.size + 2) g w.heap.size _ _ _ (Nat.le_trans h2.2.2 (by omega)) W h6 h4 h3 (by rw [List.size_toArray, rc_len h2.1]; omega) (by omega)).mono fun e w' hh => ?_
      obtain ⟨q, n, q1, q2, hh⟩ := hh
      exact SR.step hl hg h1 h2 h4 h5 h7 h10 hh (by rw [e1]; exact rc_setD h2.1 _ _ _) (by rw [e1]) (by rw [e1]; exact q1) (fun b hb => by simp [Value.ownBlock] at hb; omega))
  have QD : Hid (∀ W, SR w g Z (pz kd, xs, s0) s s.size W → ∃ C2, (Try.prog.info? 26).map (·.size) = some C2.size ∧ C2.all (·.oneCell') = true ∧ W.heap[w.heap.size + 2]? = some (.cells C2 26 (0, 0)) ∧ W.heap[w.heap.size + 1]? = some (.cells Z 26 (0, 0)) ∧ Z.size = C2.size ∧
      ReadQ w g (runR (lets (letS kd)) (pz kd, xs, s0)) (.returned (.agg C2)) (W.setRow (w.heap.size + 1) C2)) := fun W h => by
    obtain ⟨a, dv, h1, h2, h3, h4, h5, h6, h7, h8, h9, h10⟩ := h
    rw [List.take_of_length_le (by rw [lets_len]; exact Nat.le_refl _)] at h1
    rw [← hs, ← h1]
    have hm := Mods.row W (w.heap.size + 1) (rc a.1 dv).toArray
    have i2 := i26 h2.1 dv
    refine ⟨(rc a.1 dv).toArray, i2, rc_one h8.one, h3, h5, Option.some.inj (i0.symm.trans i2), dv, rfl, h2, rd_mods h6 hm (by omega) (fun b hb => by omega), h7.trans hm (fun b hb => .inr (by omega)), sees_mods h8 hm (fun b hb hx => by have := h9 _ hb; omega), fun b hb => by have := h9 _ hb; omega⟩
  have EAH := Lib.hid EA
  have HW1 := Lib.hid hw1
  have HW2 := Lib.hid hw2
  have HW3 := Lib.hid hw3
  have HS := Lib.hid hs
  have G2 : Hid ((w2.alloc (.cells Z 26)).heap[w2.heap.size]? = some (.cells Z 26 (0, 0))) := heap_alloc_new w2 _
  have RN : Hid ((w2.alloc (.cells Z 26)).setRow w2.heap.size C = w3) := by rw [hw3]; exact alloc_setRowT w2 Z C 26 _ rfl
  have Z1 := Lib.hid z1
  have Z2 := Lib.hid z2
  have IC := Lib.hid i1
  have IZ : Hid (Z.size = C.size) := Option.some.inj (i0.symm.trans i1)
  have HO : Hid (C.all (·.oneCell') = true) := by show _ = _; rw [hC]; exact rc_one rfl
  have HB := Lib.hid hb
  clear EA S0 z1 z2 z3 z4 b1 b2 b3 b4 bb g1 g2 g3 hw1 hw2 hw3 hZ hC hs hr hl hkd i0 i1 hb hg
  generalize runR (lets (letS kd)) (pz kd, xs, s0) = A at QD ⊢
  go_enter Try.func26, Try.ntmps26
  go_upto_region 1 with (fail)
  rw [← HW1.out, ← HW2.out]
  rename_i K0 hK0
  obtain ⟨QQ, hQQ⟩ : ∃ x, x = (Exit.then K0 (bodyPost Try.prog Try.f26 (ReadQ w g A))) := ⟨_, rfl⟩
  rw [← hQQ]
  have HQQ := Lib.hid hQQ
  have HK0 := Lib.hid hK0
  clear hQQ hK0
  go_wp2_with (refine wpList_build_run rfl 26 0 (.tmp 6) rfl rfl (HB.out _) ?_; refine wpList_alloc_z rfl 26 rfl (z _) ?_; refine wpList_store_row rfl 26 (.tmp 5) (.tmp 7) rfl w2.heap.size C rfl rfl 26 Z G2.out IC.out IZ.out HO.out ?_; rw [RN.out, Z2.out]; clear z)
  rw [HQQ.out]
  refine HK0.out _ _ ?_
  clear HK0 HQQ
  go_wp2_with fail
  refine (lettersOf kd _).mono ?_
  rintro e w' ⟨rfl, rfl⟩
  rw [← HS.out]
  go_wp2_with fail
  refine EAH.out.mono ?_
  rintro e W ⟨rfl, h⟩
  obtain ⟨C2, i2, o2, h2, h3, h4, h5⟩ := QD.out W h
  have I2 := Lib.hid i2
  have O2 := Lib.hid o2
  have H2 := Lib.hid h2
  have H3 := Lib.hid h3
  have H4 := Lib.hid h4
  have H5 := Lib.hid h5
  have H6 : Hid ((W.setRow (w.heap.size + 1) C2).heap[w.heap.size + 1]? = some (.cells C2 26 (0, 0))) := setRow_heap _ _ _ _ _ _ h3
  clear h i2 o2 h2 h3 h4 h5 QD EAH
  go_wp2_with (first | refine wpList_load_row rfl 26 (.tmp 5) rfl (w.heap.size + 2) rfl 26 C2 (0, 0) _ H2.out Try.underlying26 rfl I2.out ?_ | refine wpList_store_row rfl 26 (.tmp 4) (.tmp 14) rfl (w.heap.size + 1) C2 rfl rfl 26 Z H3.out I2.out H4.out O2.out ?_)
  exact bodyPost_ret (results_cell1 rfl _ _ (w.heap.size + 1) 26 C2 (0, 0) _ rfl H6.out Try.underlying26 rfl I2.out) rfl H5.out
end Go.Proofs.Ytdohggpajhkkhaa
