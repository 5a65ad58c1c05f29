/-
  The contract of reply.Decode. Condition: the bytes are at most 10000.
-/
import Derived.Test.YtabopcfhonkecaaRpE
namespace Go.Proofs.Ytabopcfhonkecaa
open Go.RowKit
theorem Sees.row {w : World} {q n c R : Nat} {ys : List Int} {cs : Array Value} (h : Sees w (.slice (some ⟨q, 0, none⟩) n c) ys) (hne : q ≠ R) : Sees (w.setRow R cs) (.slice (some ⟨q, 0, none⟩) n c) ys :=
  h.grown (grownBy_setRow w R cs) (fun k hk => by cases hk; intro e; simp [Value.ownBlock] at e; exact hne e)
theorem below_g {w a b : World} {g : Nat} (h : Below w.heap.size w a) (hg : w.heap.size ≤ g) (hm : a.grownBy b (some g)) : Below w.heap.size w b :=
  h.trans ⟨hm.os, hm.tape, hm.output, hm.size, fun k hk => hm.block k (by have := h.size; omega) (fun e => by have := Option.some.inj e; omega)⟩
theorem results_ct {fn : Func} {p q : Tmp} {ty : TypeId} (h : fn.results = #[.cell p ty, .tmp q]) (tmps : Array Value) (w : World) (g : Nat) (t : TypeId) (cs : Array Value) (fr : Nat × Nat) (d : TypeDesc) (y : Value)
    (hp : tmps.getD p undef = .pointer (some ⟨g, 0, none⟩)) (hy : tmps.getD q undef = y) (hg : w.heap[g]? = some (.cells cs t fr))
    (hu : Try.prog.underlying ty = some d) (hd : ∃ fs, d = .struct fs) (hi : (Try.prog.info? ty).map (·.size) = some cs.size) :
    (results fn tmps).run Try.prog w = .ok (.tuple #[.agg cs, y]) w := by
  obtain ⟨fs, rfl⟩ := hd
  rw [← hy]
  exact results_cell_tmp h tmps w g t cs fr _ hp hg hu rfl hi
def FreshV (b : Nat) (v : Value) : Prop := ∀ k, v.ownBlock = some k → b ≤ k
def rE (xs : List Int) : Int := getV (got xs false 2) 0 2
def rX (xs : List Int) : List Int × Bool := (rst xs false 2, shrt xs.length false 2)
def rN (xs : List Int) : Int := getV (got (rX xs).1 (rX xs).2 4) 0 4
def rY (xs : List Int) : List Int × Bool := (rst (rX xs).1 (rX xs).2 4, shrt (rX xs).1.length (rX xs).2 4)
def rD (xs : List Int) : List Int := got (rY xs).1 (rY xs).2 (rY xs).1.length
def rZ (xs : List Int) : List Int × Bool := (rst (rY xs).1 (rY xs).2 (rY xs).1.length, shrt (rY xs).1.length (rY xs).2 (rY xs).1.length)
def rP (xs : List Int) : Ry := ⟨rE xs, rN xs, rD xs⟩
def decB (xs : List Int) : Bool := (endE (rZ xs).1 (rZ xs).2 == 0) && mayB (rP xs)
def decP (xs : List Int) : Ry := if decB xs = true then rP xs else ⟨0, 0, []⟩
def decE (xs : List Int) : Int := if decB xs = true then 0 else 3
def DecP (w : World) (xs : List Int) (e : Ending) (w' : World) : Prop :=
  ∃ dv, e = .returned (.tuple #[.agg (rc (decP xs) dv).toArray, .int .i64 (decE xs)]) ∧ Sees w' dv (decP xs).d ∧ FreshV w.heap.size dv ∧ Below w.heap.size w w'
theorem rst_len (xs : List Int) (s : Bool) (n : Int) : (rst xs s n).length ≤ xs.length := by
  unfold rst
  split
  · exact Nat.le_refl _
  · rw [List.length_drop]; omega
theorem rst_byt {xs : List Int} (h : Byt xs) (s : Bool) (n : Int) : Byt (rst xs s n) := by
  unfold rst
  split
  · exact h
  · exact h.drop _
theorem got_byt' {xs : List Int} (h : Byt xs) (s : Bool) (n : Int) : Byt (got xs s n) := by
  unfold got
  split
  · exact fun x h => by simp at h
  · exact h.take _
theorem dec_zno {xs : List Int} {w : World} (h : decB xs = false) : Hid (∀ W, Below w.heap.size w W → DecP w xs (.returned (.tuple #[.agg (rc ⟨0, 0, []⟩ (.slice none 0 0)).toArray, .int .i64 3])) W) := fun W hb => by
  unfold DecP decP decE
  rw [h]
  exact ⟨.slice none 0 0, rfl, sees_nil _, fun k e => by simp [Value.ownBlock] at e, hb⟩
theorem dec_zyes {xs : List Int} {w : World} (h : decB xs = true) : Hid (∀ W dv, Below w.heap.size w W → Sees W dv (rD xs) → FreshV w.heap.size dv → DecP w xs (.returned (.tuple #[.agg (rc (rP xs) dv).toArray, .int .i64 0])) W) := fun W dv hb hs hf => by
  unfold DecP decP decE
  rw [if_pos h, if_pos h]
  exact ⟨dv, rfl, hs, hf, hb⟩
theorem b25z (w : World) : (Instr.build 25 #[]).run Try.prog w = .ok (.agg (rc ⟨0, 0, []⟩ (.slice none 0 0)).toArray) w := by kernel_rfl
theorem b25a (p : Ry) (x : Option Addr) (n c : Nat) (w : World) : (Instr.build 25 #[(0, .int .i64 p.e), (1, .int .i64 p.n), (2, .slice x n c)]).run Try.prog w = .ok (.agg (rc p (.slice x n c)).toArray) w := by kernel_rfl
theorem b30z (w : World) : (Instr.build 30 #[]).run Try.prog w = .ok (.agg (rc ⟨0, 0, []⟩ (.slice none 0 0)).toArray) w := by kernel_rfl
theorem b30a (p : Ry) (x : Option Addr) (n c : Nat) (w : World) : (Instr.build 30 #[(0, .int .i64 p.e), (1, .int .i64 p.n), (2, .slice x n c)]).run Try.prog w = .ok (.agg (rc p (.slice x n c)).toArray) w := by kernel_rfl
theorem wpList_build0 {ops : Array Oper} {rest : List Oper} {o : Oper} {a : Act} {w : World} {Q : Exit → Act → World → Prop} (hgd : o.guard = none) (t : TypeId)
    (ho : o.op = .build t #[]) {v : Value} (hr : (Instr.build t #[]).run Try.prog w = .ok v w) (h : wpList Try.prog ops Q rest (a.put o.dst v) w) : wpList Try.prog ops Q (o :: rest) a w := by
  refine wpList_plain hgd fun K hK => ?_
  unfold Oper.wp execOp
  simp only [ho, Sem.run_bind, Sem.run_pure, Result.andThen_ok, List.map_toArray, List.map_nil, hr]
  exact hK _ _ h
set_option maxRecDepth 100000 in
set_option maxHeartbeats 4000000 in
theorem decode_n (v : Value) (xs : List Int) (hl : xs.length ≤ 10000) (w : World) (hs : Sees w v xs) (he : (endE (rZ xs).1 (rZ xs).2 == 0) = false) : Calls Try.prog 11 #[v] w (DecP w xs) := by
  have hok : decB xs = false := by unfold decB; rw [he]; rfl
  have FIN := dec_zno (w := w) hok
  obtain ⟨Z, hZ⟩ : ∃ Z, Z = (rc ⟨0, 0, []⟩ (.slice none 0 0)).toArray := ⟨_, rfl⟩
  have z := z25
  have i0 := i25 ⟨0, 0, []⟩ (.slice none 0 0)
  have bz := b25z
  have oz : (rc ⟨0, 0, []⟩ (.slice none 0 0)).toArray.all (·.oneCell') = true := rc_one rfl
  rw [← hZ] at z i0 bz oz
  rw [← hZ] at FIN
  have HZ := Lib.hid z
  have BZ := Lib.hid bz
  have IZ := Lib.hid i0
  have OZ := Lib.hid oz
  have IZZ : Hid (Z.size = Z.size) := Lib.hid rfl
  obtain ⟨w1, hw1⟩ : ∃ w1, w1 = w.alloc (.cells Z 25) := ⟨_, rfl⟩
  have B1 : Hid (Below w.heap.size w w1) := by show Below _ _ _; rw [hw1]; exact (Below.refl _ _).alloc (Nat.le_refl _) _
  have g1 : w1.heap[w.heap.size]? = some (.cells Z 25 (0, 0)) := by rw [hw1]; exact heap_alloc_new w _
  have RN : Hid (Calls Try.prog 24 #[v] w1 (rx.ReadP w1 xs)) := rx.readn v xs (by omega) w1 (hs.below B1.out)
  have G1 := Lib.hid g1
  have HW1 := Lib.hid hw1
  have hbX : Byt (rX xs).1 := rst_byt hs.1 _ _
  have hbY : Byt (rY xs).1 := rst_byt hbX _ _
  have ee : 0 ≤ rE xs ∧ rE xs < 256 ^ 2 := octetPuts.getV_bd _ 0 2 (got_byt' hs.1 _ _)
  have en : 0 ≤ rN xs ∧ rN xs < 256 ^ 4 := octetPuts.getV_bd _ 0 4 (got_byt' hbX _ _)
  have l2 : (rX xs).1.length ≤ 10000 := Nat.le_trans (rst_len _ _ _) hl
  have l3 : (rY xs).1.length ≤ 10000 := Nat.le_trans (rst_len _ _ _) l2
  have WE : Hid (IntKind.i64.wrap (rE xs) = rE xs) := by show _ = _; rw [IntKind.wrap_i64]; omega
  have WN : Hid (IntKind.i64.wrap (rN xs) = rN xs) := by show _ = _; rw [IntKind.wrap_i64]; omega
  have U1 : Hid (∀ g W, rx.RD W g xs false → Calls Try.prog 25 #[.pointer (some ⟨g, 0, none⟩)] W fun e w' => e = .returned (.int .u16 (rE xs)) ∧ rx.RD w' g (rX xs).1 (rX xs).2 ∧ W.grownBy w' (some g)) := fun g W h => rx.u16 g xs false W h
  have U2 : Hid (∀ g W, rx.RD W g (rX xs).1 (rX xs).2 → Calls Try.prog 26 #[.pointer (some ⟨g, 0, none⟩)] W fun e w' => e = .returned (.int .u32 (rN xs)) ∧ rx.RD w' g (rY xs).1 (rY xs).2 ∧ W.grownBy w' (some g)) := fun g W h => rx.u32 g _ _ W h
  have U3 : Hid (∀ g W, rx.RD W g (rY xs).1 (rY xs).2 → Calls Try.prog 27 #[.pointer (some ⟨g, 0, none⟩)] W fun e w' => ∃ q, e = .returned (.slice (some ⟨q, 0, none⟩) (rD xs).length (rD xs).length) ∧ Sees w' (.slice (some ⟨q, 0, none⟩) (rD xs).length (rD xs).length) (rD xs) ∧ W.heap.size ≤ q ∧ rx.RD w' g (rZ xs).1 (rZ xs).2 ∧ W.grownBy w' (some g)) := fun g W h => rest_rd g _ _ (by omega) W h
  have HE : Hid (∀ g W, rx.RD W g (rZ xs).1 (rZ xs).2 → Calls Try.prog 28 #[.pointer (some ⟨g, 0, none⟩)] W fun e w' => e = .returned (.int .i64 (endE (rZ xs).1 (rZ xs).2)) ∧ W = w') := fun g W h => endR g _ _ W h
  have HM : Hid (∀ dv W, Sees W dv (rD xs) → Calls Try.prog 19 #[.agg (rc (rP xs) dv).toArray] W fun e w' => e = .returned (.bool (mayB (rP xs))) ∧ Below W.heap.size W w') := fun dv W h => mayC (p := rP xs) dv W h
  have BP : Hid (∀ x n c W, (Instr.build 25 #[(0, .int .i64 (rE xs)), (1, .int .i64 (rN xs)), (2, .slice x n c)]).run Try.prog W = .ok (.agg (rc (rP xs) (.slice x n c)).toArray) W) := fun x n c W => b25a (rP xs) x n c W
  clear hok hw1 g1 hs hl hZ z i0 bz oz hbX hbY ee en l2 l3
  generalize DecP w xs = PP at FIN ⊢
  generalize rX xs = X1 at U1 U2
  generalize rY xs = X2 at U2 U3
  generalize rZ xs = X3 at U3 HE he
  generalize endE X3.1 X3.2 = E at HE he
  have he2 : (E != 0) = true := by rw [bne, he]; rfl
  have HEE := Lib.hid he2
  clear he he2
  generalize rD xs = dd at U3 HM
  obtain ⟨pp, hpp⟩ : ∃ pp, pp = rP xs := ⟨_, rfl⟩
  rw [← hpp] at HM BP
  clear hpp
  generalize rE xs = re at U1 BP WE
  generalize rN xs = rn at U2 BP WN
  go_enter Try.func11, Try.ntmps11
  go_upto_region 1 with (first | (refine wpList_alloc_z rfl 25 rfl (HZ.out w) ?_; rw [← HW1.out]))
  go_wp2_with fail
  refine RN.out.mono ?_
  rintro e w2 ⟨g, rfl, hrd, hb, hg⟩
  have B2 := Lib.hid (B1.out.trans (hb.mono B1.out.size))
  have hgg : w.heap.size ≤ g := Nat.le_trans B1.out.size hg
  have HG := Lib.hid hgg
  have g2 : w2.heap[w.heap.size]? = some (.cells Z 25 (0, 0)) := (hb.block _ (blk_lt G1.out)).trans G1.out
  have HGN : Hid (w.heap.size < g) := Nat.lt_of_lt_of_le (blk_lt G1.out) hg
  have R2 := Lib.hid hrd
  have G2 := Lib.hid g2
  clear hb hgg hrd g2 hg RN
  go_wp2_with fail
  refine (U1.out g _ R2.out).mono ?_
  rintro e w3 ⟨rfl, hrd, hgr⟩
  have B3 := Lib.hid (below_g B2.out HG.out hgr)
  have G3 := Lib.hid ((hgr.block _ (blk_lt G2.out) (fun e => by have := Option.some.inj e; have := HGN.out; omega)).trans G2.out)
  have R3 := Lib.hid hrd
  clear hrd hgr B2 G2 R2 U1
  have q1 := WE.out
  go_wp2_with fail
  refine (U2.out g _ R3.out).mono ?_
  rintro e w4 ⟨rfl, hrd, hgr⟩
  have B4 := Lib.hid (below_g B3.out HG.out hgr)
  have G4 := Lib.hid ((hgr.block _ (blk_lt G3.out) (fun e => by have := Option.some.inj e; have := HGN.out; omega)).trans G3.out)
  have R4 := Lib.hid hrd
  clear hrd hgr B3 G3 R3 U2 q1
  have q1 := WN.out
  go_wp2_with fail
  refine (U3.out g _ R4.out).mono ?_
  rintro e w5 ⟨q, rfl, hsd, hqq, hrd, hgr⟩
  have B5 := Lib.hid (below_g B4.out HG.out hgr)
  have G5 := Lib.hid ((hgr.block _ (blk_lt G4.out) (fun e => by have := Option.some.inj e; have := HGN.out; omega)).trans G4.out)
  have R5 := Lib.hid hrd
  have D5 := Lib.hid hsd
  have QQ : Hid (w.heap.size < q) := Nat.lt_of_lt_of_le (blk_lt G4.out) hqq
  clear hrd hgr hsd hqq B4 G4 R4 U3 q1
  have bp := BP.out (some ⟨q, 0, none⟩) dd.length dd.length w5
  have hmc := HM.out (.slice (some ⟨q, 0, none⟩) dd.length dd.length)
  obtain ⟨C, hC⟩ : ∃ C, C = (rc pp (.slice (some ⟨q, 0, none⟩) dd.length dd.length)).toArray := ⟨_, rfl⟩
  have ic := i25 pp (.slice (some ⟨q, 0, none⟩) dd.length dd.length)
  have oc : (rc pp (.slice (some ⟨q, 0, none⟩) dd.length dd.length)).toArray.all (·.oneCell') = true := rc_one rfl
  rw [← hC] at bp hmc ic oc
  have BC := Lib.hid bp
  have IC := Lib.hid ic
  have OC := Lib.hid oc
  have HC := Lib.hid hC
  have MC := Lib.hid hmc
  have IZC : Hid (Z.size = C.size) := Option.some.inj (IZ.out.symm.trans ic)
  obtain ⟨w6, hw6⟩ : ∃ w6, w6 = w5.alloc (.cells C 25) := ⟨_, rfl⟩
  have RN : Hid ((w5.alloc (.cells Z 25)).setRow w5.heap.size C = w6) := by show _ = _; rw [hw6]; exact alloc_setRowT w5 Z C 25 _ rfl
  have GZ : Hid ((w5.alloc (.cells Z 25)).heap[w5.heap.size]? = some (.cells Z 25 (0, 0))) := heap_alloc_new w5 _
  have hb6 : Below w5.heap.size w5 w6 := by rw [hw6]; exact (Below.refl _ _).alloc (Nat.le_refl _) _
  have G6 : Hid (w6.heap[w5.heap.size]? = some (.cells C 25 (0, 0))) := by show _ = _; rw [hw6]; exact heap_alloc_new w5 _
  have B6 := Lib.hid (B5.out.trans (hb6.mono B5.out.size))
  have Y6 := Lib.hid ((hb6.block _ (blk_lt G5.out)).trans G5.out)
  have R6 := Lib.hid (R5.out.below hb6)
  have D6 := Lib.hid (D5.out.below hb6)
  clear hC hw6 hb6 B5 G5 R5 D5 bp hmc ic oc BP HM
  generalize dd.length = ld at *
  go_wp2_with (refine wpList_build3_run (u1 := .int .i64 re) (u2 := .int .i64 rn) (u3 := .slice (some ⟨q, 0, none⟩) ld ld) rfl 25 0 1 2 (.tmp 10) (.tmp 13) (.tmp 15) rfl rfl rfl rfl BC.out ?_; refine wpList_alloc_z rfl 25 rfl (HZ.out w5) ?_; refine wpList_store_row rfl 25 (.tmp 5) (.tmp 16) rfl w5.heap.size C rfl rfl 25 Z GZ.out IC.out IZC.out OC.out ?_; rw [RN.out])
  refine (HE.out g _ R6.out).mono ?_
  rintro e w' ⟨rfl, rfl⟩
  have q1 := HEE.out
  go_wp2_with (first | (refine wpList_build0 rfl 25 rfl (BZ.out w6) ?_; refine wpList_store_row rfl 25 (.tmp 2) (.tmp 25) rfl w.heap.size Z rfl rfl 25 Z Y6.out IZ.out rfl OZ.out ?_))
  have YZ : Hid (_ = some (Obj.cells Z 25 (0, 0))) := setRow_heap _ w.heap.size Z Z _ _ Y6.out
  refine bodyPost_ret (v := .tuple #[.agg Z, .int .i64 3]) (results_ct rfl _ _ w.heap.size 25 Z (0, 0) _ (.int .i64 3) rfl rfl YZ.out Try.underlying25 ⟨_, rfl⟩ IZ.out) rfl ?_
  exact FIN.out _ (B6.out.trans (below_row _ _ (Nat.le_refl _)))
set_option maxRecDepth 100000 in
set_option maxHeartbeats 4000000 in
theorem decode_m (v : Value) (xs : List Int) (hl : xs.length ≤ 10000) (w : World) (hs : Sees w v xs) (he : (endE (rZ xs).1 (rZ xs).2 == 0) = true) (hm : mayB (rP xs) = false) : Calls Try.prog 11 #[v] w (DecP w xs) := by
  have hok : decB xs = false := by unfold decB; rw [he, hm]; rfl
  have FIN := dec_zno (w := w) hok
  obtain ⟨Z, hZ⟩ : ∃ Z, Z = (rc ⟨0, 0, []⟩ (.slice none 0 0)).toArray := ⟨_, rfl⟩
  have z := z25
  have i0 := i25 ⟨0, 0, []⟩ (.slice none 0 0)
  have bz := b25z
  have oz : (rc ⟨0, 0, []⟩ (.slice none 0 0)).toArray.all (·.oneCell') = true := rc_one rfl
  rw [← hZ] at z i0 bz oz
  rw [← hZ] at FIN
  have HZ := Lib.hid z
  have BZ := Lib.hid bz
  have IZ := Lib.hid i0
  have OZ := Lib.hid oz
  have IZZ : Hid (Z.size = Z.size) := Lib.hid rfl
  obtain ⟨w1, hw1⟩ : ∃ w1, w1 = w.alloc (.cells Z 25) := ⟨_, rfl⟩
  have B1 : Hid (Below w.heap.size w w1) := by show Below _ _ _; rw [hw1]; exact (Below.refl _ _).alloc (Nat.le_refl _) _
  have g1 : w1.heap[w.heap.size]? = some (.cells Z 25 (0, 0)) := by rw [hw1]; exact heap_alloc_new w _
  have RN : Hid (Calls Try.prog 24 #[v] w1 (rx.ReadP w1 xs)) := rx.readn v xs (by omega) w1 (hs.below B1.out)
  have G1 := Lib.hid g1
  have HW1 := Lib.hid hw1
  have hbX : Byt (rX xs).1 := rst_byt hs.1 _ _
  have hbY : Byt (rY xs).1 := rst_byt hbX _ _
  have ee : 0 ≤ rE xs ∧ rE xs < 256 ^ 2 := octetPuts.getV_bd _ 0 2 (got_byt' hs.1 _ _)
  have en : 0 ≤ rN xs ∧ rN xs < 256 ^ 4 := octetPuts.getV_bd _ 0 4 (got_byt' hbX _ _)
  have l2 : (rX xs).1.length ≤ 10000 := Nat.le_trans (rst_len _ _ _) hl
  have l3 : (rY xs).1.length ≤ 10000 := Nat.le_trans (rst_len _ _ _) l2
  have WE : Hid (IntKind.i64.wrap (rE xs) = rE xs) := by show _ = _; rw [IntKind.wrap_i64]; omega
  have WN : Hid (IntKind.i64.wrap (rN xs) = rN xs) := by show _ = _; rw [IntKind.wrap_i64]; omega
  have U1 : Hid (∀ g W, rx.RD W g xs false → Calls Try.prog 25 #[.pointer (some ⟨g, 0, none⟩)] W fun e w' => e = .returned (.int .u16 (rE xs)) ∧ rx.RD w' g (rX xs).1 (rX xs).2 ∧ W.grownBy w' (some g)) := fun g W h => rx.u16 g xs false W h
  have U2 : Hid (∀ g W, rx.RD W g (rX xs).1 (rX xs).2 → Calls Try.prog 26 #[.pointer (some ⟨g, 0, none⟩)] W fun e w' => e = .returned (.int .u32 (rN xs)) ∧ rx.RD w' g (rY xs).1 (rY xs).2 ∧ W.grownBy w' (some g)) := fun g W h => rx.u32 g _ _ W h
  have U3 : Hid (∀ g W, rx.RD W g (rY xs).1 (rY xs).2 → Calls Try.prog 27 #[.pointer (some ⟨g, 0, none⟩)] W fun e w' => ∃ q, e = .returned (.slice (some ⟨q, 0, none⟩) (rD xs).length (rD xs).length) ∧ Sees w' (.slice (some ⟨q, 0, none⟩) (rD xs).length (rD xs).length) (rD xs) ∧ W.heap.size ≤ q ∧ rx.RD w' g (rZ xs).1 (rZ xs).2 ∧ W.grownBy w' (some g)) := fun g W h => rest_rd g _ _ (by omega) W h
  have HE : Hid (∀ g W, rx.RD W g (rZ xs).1 (rZ xs).2 → Calls Try.prog 28 #[.pointer (some ⟨g, 0, none⟩)] W fun e w' => e = .returned (.int .i64 (endE (rZ xs).1 (rZ xs).2)) ∧ W = w') := fun g W h => endR g _ _ W h
  have HM : Hid (∀ dv W, Sees W dv (rD xs) → Calls Try.prog 19 #[.agg (rc (rP xs) dv).toArray] W fun e w' => e = .returned (.bool (mayB (rP xs))) ∧ Below W.heap.size W w') := fun dv W h => mayC (p := rP xs) dv W h
  have BP : Hid (∀ x n c W, (Instr.build 25 #[(0, .int .i64 (rE xs)), (1, .int .i64 (rN xs)), (2, .slice x n c)]).run Try.prog W = .ok (.agg (rc (rP xs) (.slice x n c)).toArray) W) := fun x n c W => b25a (rP xs) x n c W
  clear hok hw1 g1 hs hl hZ z i0 bz oz hbX hbY ee en l2 l3
  generalize DecP w xs = PP at FIN ⊢
  generalize rX xs = X1 at U1 U2
  generalize rY xs = X2 at U2 U3
  generalize rZ xs = X3 at U3 HE he
  generalize endE X3.1 X3.2 = E at HE he
  generalize mayB (rP xs) = M at HM hm
  subst hm
  have e0 : E = 0 := beq_iff_eq.1 he
  subst e0
  clear he
  generalize rD xs = dd at U3 HM
  obtain ⟨pp, hpp⟩ : ∃ pp, pp = rP xs := ⟨_, rfl⟩
  rw [← hpp] at HM BP
  clear hpp
  generalize rE xs = re at U1 BP WE
  generalize rN xs = rn at U2 BP WN
  go_enter Try.func11, Try.ntmps11
  go_upto_region 1 with (first | (refine wpList_alloc_z rfl 25 rfl (HZ.out w) ?_; rw [← HW1.out]))
  go_wp2_with fail
  refine RN.out.mono ?_
  rintro e w2 ⟨g, rfl, hrd, hb, hg⟩
  have B2 := Lib.hid (B1.out.trans (hb.mono B1.out.size))
  have hgg : w.heap.size ≤ g := Nat.le_trans B1.out.size hg
  have HG := Lib.hid hgg
  have g2 : w2.heap[w.heap.size]? = some (.cells Z 25 (0, 0)) := (hb.block _ (blk_lt G1.out)).trans G1.out
  have HGN : Hid (w.heap.size < g) := Nat.lt_of_lt_of_le (blk_lt G1.out) hg
  have R2 := Lib.hid hrd
  have G2 := Lib.hid g2
  clear hb hgg hrd g2 hg RN
  go_wp2_with fail
  refine (U1.out g _ R2.out).mono ?_
  rintro e w3 ⟨rfl, hrd, hgr⟩
  have B3 := Lib.hid (below_g B2.out HG.out hgr)
  have G3 := Lib.hid ((hgr.block _ (blk_lt G2.out) (fun e => by have := Option.some.inj e; have := HGN.out; omega)).trans G2.out)
  have R3 := Lib.hid hrd
  clear hrd hgr B2 G2 R2 U1
  have q1 := WE.out
  go_wp2_with fail
  refine (U2.out g _ R3.out).mono ?_
  rintro e w4 ⟨rfl, hrd, hgr⟩
  have B4 := Lib.hid (below_g B3.out HG.out hgr)
  have G4 := Lib.hid ((hgr.block _ (blk_lt G3.out) (fun e => by have := Option.some.inj e; have := HGN.out; omega)).trans G3.out)
  have R4 := Lib.hid hrd
  clear hrd hgr B3 G3 R3 U2 q1
  have q1 := WN.out
  go_wp2_with fail
  refine (U3.out g _ R4.out).mono ?_
  rintro e w5 ⟨q, rfl, hsd, hqq, hrd, hgr⟩
  have B5 := Lib.hid (below_g B4.out HG.out hgr)
  have G5 := Lib.hid ((hgr.block _ (blk_lt G4.out) (fun e => by have := Option.some.inj e; have := HGN.out; omega)).trans G4.out)
  have R5 := Lib.hid hrd
  have D5 := Lib.hid hsd
  have QQ : Hid (w.heap.size < q) := Nat.lt_of_lt_of_le (blk_lt G4.out) hqq
  clear hrd hgr hsd hqq B4 G4 R4 U3 q1
  have bp := BP.out (some ⟨q, 0, none⟩) dd.length dd.length w5
  have hmc := HM.out (.slice (some ⟨q, 0, none⟩) dd.length dd.length)
  obtain ⟨C, hC⟩ : ∃ C, C = (rc pp (.slice (some ⟨q, 0, none⟩) dd.length dd.length)).toArray := ⟨_, rfl⟩
  have ic := i25 pp (.slice (some ⟨q, 0, none⟩) dd.length dd.length)
  have oc : (rc pp (.slice (some ⟨q, 0, none⟩) dd.length dd.length)).toArray.all (·.oneCell') = true := rc_one rfl
  rw [← hC] at bp hmc ic oc
  have BC := Lib.hid bp
  have IC := Lib.hid ic
  have OC := Lib.hid oc
  have HC := Lib.hid hC
  have MC := Lib.hid hmc
  have IZC : Hid (Z.size = C.size) := Option.some.inj (IZ.out.symm.trans ic)
  obtain ⟨w6, hw6⟩ : ∃ w6, w6 = w5.alloc (.cells C 25) := ⟨_, rfl⟩
  have RN : Hid ((w5.alloc (.cells Z 25)).setRow w5.heap.size C = w6) := by show _ = _; rw [hw6]; exact alloc_setRowT w5 Z C 25 _ rfl
  have GZ : Hid ((w5.alloc (.cells Z 25)).heap[w5.heap.size]? = some (.cells Z 25 (0, 0))) := heap_alloc_new w5 _
  have hb6 : Below w5.heap.size w5 w6 := by rw [hw6]; exact (Below.refl _ _).alloc (Nat.le_refl _) _
  have G6 : Hid (w6.heap[w5.heap.size]? = some (.cells C 25 (0, 0))) := by show _ = _; rw [hw6]; exact heap_alloc_new w5 _
  have B6 := Lib.hid (B5.out.trans (hb6.mono B5.out.size))
  have Y6 := Lib.hid ((hb6.block _ (blk_lt G5.out)).trans G5.out)
  have R6 := Lib.hid (R5.out.below hb6)
  have D6 := Lib.hid (D5.out.below hb6)
  clear hC hw6 hb6 B5 G5 R5 D5 bp hmc ic oc BP HM
  generalize dd.length = ld at *
  go_wp2_with (refine wpList_build3_run (u1 := .int .i64 re) (u2 := .int .i64 rn) (u3 := .slice (some ⟨q, 0, none⟩) ld ld) rfl 25 0 1 2 (.tmp 10) (.tmp 13) (.tmp 15) rfl rfl rfl rfl BC.out ?_; refine wpList_alloc_z rfl 25 rfl (HZ.out w5) ?_; refine wpList_store_row rfl 25 (.tmp 5) (.tmp 16) rfl w5.heap.size C rfl rfl 25 Z GZ.out IC.out IZC.out OC.out ?_; rw [RN.out])
  refine (HE.out g _ R6.out).mono ?_
  rintro e w' ⟨rfl, rfl⟩
  go_wp2_with (refine wpList_load_met rfl 25 (.tmp 5) rfl w5.heap.size rfl 25 C (0, 0) _ G6.out Try.underlying25 ⟨_, rfl⟩ IC.out ?_)
  refine (MC.out w6 D6.out).mono ?_
  rintro e w7 ⟨rfl, hb⟩
  have B7 := Lib.hid (B6.out.trans (hb.mono B6.out.size))
  have Y7 := Lib.hid ((hb.block _ (blk_lt Y6.out)).trans Y6.out)
  have G7 := Lib.hid ((hb.block _ (blk_lt G6.out)).trans G6.out)
  have D7 := Lib.hid (D6.out.below hb)
  clear hb
  go_wp2_with (first | (refine wpList_build0 rfl 25 rfl (BZ.out w7) ?_; refine wpList_store_row rfl 25 (.tmp 2) (.tmp 25) rfl w.heap.size Z rfl rfl 25 Z Y7.out IZ.out rfl OZ.out ?_))
  have YZ : Hid (_ = some (Obj.cells Z 25 (0, 0))) := setRow_heap _ w.heap.size Z Z _ _ Y7.out
  refine bodyPost_ret (v := .tuple #[.agg Z, .int .i64 3]) (results_ct rfl _ _ w.heap.size 25 Z (0, 0) _ (.int .i64 3) rfl rfl YZ.out Try.underlying25 ⟨_, rfl⟩ IZ.out) rfl ?_
  exact FIN.out _ (B7.out.trans (below_row _ _ (Nat.le_refl _)))
set_option maxRecDepth 100000 in
set_option maxHeartbeats 4000000 in
theorem decode_y (v : Value) (xs : List Int) (hl : xs.length ≤ 10000) (w : World) (hs : Sees w v xs) (he : (endE (rZ xs).1 (rZ xs).2 == 0) = true) (hm : mayB (rP xs) = true) : Calls Try.prog 11 #[v] w (DecP w xs) := by
  have hok : decB xs = true := by unfold decB; rw [he, hm]; rfl
  have FIN := dec_zyes (w := w) hok
  obtain ⟨Z, hZ⟩ : ∃ Z, Z = (rc ⟨0, 0, []⟩ (.slice none 0 0)).toArray := ⟨_, rfl⟩
  have z := z25
  have i0 := i25 ⟨0, 0, []⟩ (.slice none 0 0)
  have bz := b25z
  have oz : (rc ⟨0, 0, []⟩ (.slice none 0 0)).toArray.all (·.oneCell') = true := rc_one rfl
  rw [← hZ] at z i0 bz oz
  have HZ := Lib.hid z
  have BZ := Lib.hid bz
  have IZ := Lib.hid i0
  have OZ := Lib.hid oz
  have IZZ : Hid (Z.size = Z.size) := Lib.hid rfl
  obtain ⟨w1, hw1⟩ : ∃ w1, w1 = w.alloc (.cells Z 25) := ⟨_, rfl⟩
  have B1 : Hid (Below w.heap.size w w1) := by show Below _ _ _; rw [hw1]; exact (Below.refl _ _).alloc (Nat.le_refl _) _
  have g1 : w1.heap[w.heap.size]? = some (.cells Z 25 (0, 0)) := by rw [hw1]; exact heap_alloc_new w _
  have RN : Hid (Calls Try.prog 24 #[v] w1 (rx.ReadP w1 xs)) := rx.readn v xs (by omega) w1 (hs.below B1.out)
  have G1 := Lib.hid g1
  have HW1 := Lib.hid hw1
  have hbX : Byt (rX xs).1 := rst_byt hs.1 _ _
  have hbY : Byt (rY xs).1 := rst_byt hbX _ _
  have ee : 0 ≤ rE xs ∧ rE xs < 256 ^ 2 := octetPuts.getV_bd _ 0 2 (got_byt' hs.1 _ _)
  have en : 0 ≤ rN xs ∧ rN xs < 256 ^ 4 := octetPuts.getV_bd _ 0 4 (got_byt' hbX _ _)
  have l2 : (rX xs).1.length ≤ 10000 := Nat.le_trans (rst_len _ _ _) hl
  have l3 : (rY xs).1.length ≤ 10000 := Nat.le_trans (rst_len _ _ _) l2
  have WE : Hid (IntKind.i64.wrap (rE xs) = rE xs) := by show _ = _; rw [IntKind.wrap_i64]; omega
  have WN : Hid (IntKind.i64.wrap (rN xs) = rN xs) := by show _ = _; rw [IntKind.wrap_i64]; omega
  have U1 : Hid (∀ g W, rx.RD W g xs false → Calls Try.prog 25 #[.pointer (some ⟨g, 0, none⟩)] W fun e w' => e = .returned (.int .u16 (rE xs)) ∧ rx.RD w' g (rX xs).1 (rX xs).2 ∧ W.grownBy w' (some g)) := fun g W h => rx.u16 g xs false W h
  have U2 : Hid (∀ g W, rx.RD W g (rX xs).1 (rX xs).2 → Calls Try.prog 26 #[.pointer (some ⟨g, 0, none⟩)] W fun e w' => e = .returned (.int .u32 (rN xs)) ∧ rx.RD w' g (rY xs).1 (rY xs).2 ∧ W.grownBy w' (some g)) := fun g W h => rx.u32 g _ _ W h
  have U3 : Hid (∀ g W, rx.RD W g (rY xs).1 (rY xs).2 → Calls Try.prog 27 #[.pointer (some ⟨g, 0, none⟩)] W fun e w' => ∃ q, e = .returned (.slice (some ⟨q, 0, none⟩) (rD xs).length (rD xs).length) ∧ Sees w' (.slice (some ⟨q, 0, none⟩) (rD xs).length (rD xs).length) (rD xs) ∧ W.heap.size ≤ q ∧ rx.RD w' g (rZ xs).1 (rZ xs).2 ∧ W.grownBy w' (some g)) := fun g W h => rest_rd g _ _ (by omega) W h
  have HE : Hid (∀ g W, rx.RD W g (rZ xs).1 (rZ xs).2 → Calls Try.prog 28 #[.pointer (some ⟨g, 0, none⟩)] W fun e w' => e = .returned (.int .i64 (endE (rZ xs).1 (rZ xs).2)) ∧ W = w') := fun g W h => endR g _ _ W h
  have HM : Hid (∀ dv W, Sees W dv (rD xs) → Calls Try.prog 19 #[.agg (rc (rP xs) dv).toArray] W fun e w' => e = .returned (.bool (mayB (rP xs))) ∧ Below W.heap.size W w') := fun dv W h => mayC (p := rP xs) dv W h
  have BP : Hid (∀ x n c W, (Instr.build 25 #[(0, .int .i64 (rE xs)), (1, .int .i64 (rN xs)), (2, .slice x n c)]).run Try.prog W = .ok (.agg (rc (rP xs) (.slice x n c)).toArray) W) := fun x n c W => b25a (rP xs) x n c W
  clear hok hw1 g1 hs hl hZ z i0 bz oz hbX hbY ee en l2 l3
  generalize DecP w xs = PP at FIN ⊢
  generalize rX xs = X1 at U1 U2
  generalize rY xs = X2 at U2 U3
  generalize rZ xs = X3 at U3 HE he
  generalize endE X3.1 X3.2 = E at HE he
  generalize mayB (rP xs) = M at HM hm
  subst hm
  have e0 : E = 0 := beq_iff_eq.1 he
  subst e0
  clear he
  generalize rD xs = dd at U3 HM FIN
  obtain ⟨pp, hpp⟩ : ∃ pp, pp = rP xs := ⟨_, rfl⟩
  rw [← hpp] at HM BP FIN
  clear hpp
  generalize rE xs = re at U1 BP WE
  generalize rN xs = rn at U2 BP WN
  go_enter Try.func11, Try.ntmps11
  go_upto_region 1 with (first | (refine wpList_alloc_z rfl 25 rfl (HZ.out w) ?_; rw [← HW1.out]))
  go_wp2_with fail
  refine RN.out.mono ?_
  rintro e w2 ⟨g, rfl, hrd, hb, hg⟩
  have B2 := Lib.hid (B1.out.trans (hb.mono B1.out.size))
  have hgg : w.heap.size ≤ g := Nat.le_trans B1.out.size hg
  have HG := Lib.hid hgg
  have g2 : w2.heap[w.heap.size]? = some (.cells Z 25 (0, 0)) := (hb.block _ (blk_lt G1.out)).trans G1.out
  have HGN : Hid (w.heap.size < g) := Nat.lt_of_lt_of_le (blk_lt G1.out) hg
  have R2 := Lib.hid hrd
  have G2 := Lib.hid g2
  clear hb hgg hrd g2 hg RN
  go_wp2_with fail
  refine (U1.out g _ R2.out).mono ?_
  rintro e w3 ⟨rfl, hrd, hgr⟩
  have B3 := Lib.hid (below_g B2.out HG.out hgr)
  have G3 := Lib.hid ((hgr.block _ (blk_lt G2.out) (fun e => by have := Option.some.inj e; have := HGN.out; omega)).trans G2.out)
  have R3 := Lib.hid hrd
  clear hrd hgr B2 G2 R2 U1
  have q1 := WE.out
  go_wp2_with fail
  refine (U2.out g _ R3.out).mono ?_
  rintro e w4 ⟨rfl, hrd, hgr⟩
  have B4 := Lib.hid (below_g B3.out HG.out hgr)
  have G4 := Lib.hid ((hgr.block _ (blk_lt G3.out) (fun e => by have := Option.some.inj e; have := HGN.out; omega)).trans G3.out)
  have R4 := Lib.hid hrd
  clear hrd hgr B3 G3 R3 U2 q1
  have q1 := WN.out
  go_wp2_with fail
  refine (U3.out g _ R4.out).mono ?_
  rintro e w5 ⟨q, rfl, hsd, hqq, hrd, hgr⟩
  have B5 := Lib.hid (below_g B4.out HG.out hgr)
  have G5 := Lib.hid ((hgr.block _ (blk_lt G4.out) (fun e => by have := Option.some.inj e; have := HGN.out; omega)).trans G4.out)
  have R5 := Lib.hid hrd
  have D5 := Lib.hid hsd
  have QQ : Hid (w.heap.size < q) := Nat.lt_of_lt_of_le (blk_lt G4.out) hqq
  clear hrd hgr hsd hqq B4 G4 R4 U3 q1
  have bp := BP.out (some ⟨q, 0, none⟩) dd.length dd.length w5
  have hmc := HM.out (.slice (some ⟨q, 0, none⟩) dd.length dd.length)
  obtain ⟨C, hC⟩ : ∃ C, C = (rc pp (.slice (some ⟨q, 0, none⟩) dd.length dd.length)).toArray := ⟨_, rfl⟩
  have ic := i25 pp (.slice (some ⟨q, 0, none⟩) dd.length dd.length)
  have oc : (rc pp (.slice (some ⟨q, 0, none⟩) dd.length dd.length)).toArray.all (·.oneCell') = true := rc_one rfl
  rw [← hC] at bp hmc ic oc
  have BC := Lib.hid bp
  have IC := Lib.hid ic
  have OC := Lib.hid oc
  have HC := Lib.hid hC
  have MC := Lib.hid hmc
  have IZC : Hid (Z.size = C.size) := Option.some.inj (IZ.out.symm.trans ic)
  obtain ⟨w6, hw6⟩ : ∃ w6, w6 = w5.alloc (.cells C 25) := ⟨_, rfl⟩
  have RN : Hid ((w5.alloc (.cells Z 25)).setRow w5.heap.size C = w6) := by show _ = _; rw [hw6]; exact alloc_setRowT w5 Z C 25 _ rfl
  have GZ : Hid ((w5.alloc (.cells Z 25)).heap[w5.heap.size]? = some (.cells Z 25 (0, 0))) := heap_alloc_new w5 _
  have hb6 : Below w5.heap.size w5 w6 := by rw [hw6]; exact (Below.refl _ _).alloc (Nat.le_refl _) _
  have G6 : Hid (w6.heap[w5.heap.size]? = some (.cells C 25 (0, 0))) := by show _ = _; rw [hw6]; exact heap_alloc_new w5 _
  have B6 := Lib.hid (B5.out.trans (hb6.mono B5.out.size))
  have Y6 := Lib.hid ((hb6.block _ (blk_lt G5.out)).trans G5.out)
  have R6 := Lib.hid (R5.out.below hb6)
  have D6 := Lib.hid (D5.out.below hb6)
  clear hC hw6 hb6 B5 G5 R5 D5 bp hmc ic oc BP HM
  generalize dd.length = ld at *
  go_wp2_with (refine wpList_build3_run (u1 := .int .i64 re) (u2 := .int .i64 rn) (u3 := .slice (some ⟨q, 0, none⟩) ld ld) rfl 25 0 1 2 (.tmp 10) (.tmp 13) (.tmp 15) rfl rfl rfl rfl BC.out ?_; refine wpList_alloc_z rfl 25 rfl (HZ.out w5) ?_; refine wpList_store_row rfl 25 (.tmp 5) (.tmp 16) rfl w5.heap.size C rfl rfl 25 Z GZ.out IC.out IZC.out OC.out ?_; rw [RN.out])
  refine (HE.out g _ R6.out).mono ?_
  rintro e w' ⟨rfl, rfl⟩
  go_wp2_with (refine wpList_load_met rfl 25 (.tmp 5) rfl w5.heap.size rfl 25 C (0, 0) _ G6.out Try.underlying25 ⟨_, rfl⟩ IC.out ?_)
  refine (MC.out w6 D6.out).mono ?_
  rintro e w7 ⟨rfl, hb⟩
  have B7 := Lib.hid (B6.out.trans (hb.mono B6.out.size))
  have Y7 := Lib.hid ((hb.block _ (blk_lt Y6.out)).trans Y6.out)
  have G7 := Lib.hid ((hb.block _ (blk_lt G6.out)).trans G6.out)
  have D7 := Lib.hid (D6.out.below hb)
  clear hb
  have D8 : Hid (Sees (w7.setRow w.heap.size C) (.slice (some ⟨q, 0, none⟩) ld ld) dd) := D7.out.row (by have := QQ.out; omega)
  go_wp2_with (first | (refine wpList_load_row rfl 25 (.tmp 5) rfl w5.heap.size rfl 25 C (0, 0) _ G7.out Try.underlying25 rfl IC.out ?_; refine wpList_store_row rfl 25 (.tmp 2) (.tmp 26) rfl w.heap.size C rfl rfl 25 Z Y7.out IC.out IZC.out OC.out ?_))
  have YZ : Hid (_ = some (Obj.cells C 25 (0, 0))) := setRow_heap _ w.heap.size Z C _ _ Y7.out
  refine bodyPost_ret (v := .tuple #[.agg C, .int .i64 0]) (results_ct rfl _ _ w.heap.size 25 C (0, 0) _ (.int .i64 0) rfl rfl YZ.out Try.underlying25 ⟨_, rfl⟩ IC.out) rfl ?_
  rw [HC.out]
  rw [HC.out] at D8
  exact FIN.out _ _ (B7.out.trans (below_row _ _ (Nat.le_refl _))) D8.out (fun k e => by simp [Value.ownBlock] at e; have := QQ.out; omega)
theorem decodeC (v : Value) (xs : List Int) (hl : xs.length ≤ 10000) (w : World) (hs : Sees w v xs) : Calls Try.prog 11 #[v] w (DecP w xs) := by
  cases he : (endE (rZ xs).1 (rZ xs).2 == 0) with
  | false => exact decode_n v xs hl w hs he
  | true =>
    cases hm : mayB (rP xs) with
    | false => exact decode_m v xs hl w hs he hm
    | true => exact decode_y v xs hl w hs he hm
end Go.Proofs.Ytabopcfhonkecaa
