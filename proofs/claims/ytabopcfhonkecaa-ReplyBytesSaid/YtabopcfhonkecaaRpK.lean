/-
  The contract of WriteStatus. Condition: the status has nineteen numbers.
-/
import Derived.Test.YtabopcfhonkecaaRpJ
namespace Go.Proofs.Ytabopcfhonkecaa
open Go.RowKit
/-- A status' numbers in the order in which they are written: the first k of the pairs. -/
def wlp (L : List Int) (k : Nat) : List Int := nth L 0 :: nth L 1 :: nth L 2 :: (List.range k).flatMap fun i => [nth L (3 + i), nth L (11 + i)]
theorem wlp_succ (L : List Int) (k : Nat) : wlp L (k + 1) = wlp L k ++ [nth L (3 + k), nth L (11 + k)] := by simp [wlp, List.range_succ, List.flatMap_append]
theorem wlp_len (L : List Int) : ∀ k, (wlp L k).length = 3 + 2 * k
  | 0 => rfl
  | k + 1 => by rw [wlp_succ, List.length_append, wlp_len L k]; show 3 + 2 * k + 2 = _; omega
theorem b2s_app (a b : List Int) : b2s (a ++ b) = b2s a ++ b2s b := by simp [b2s]
theorem wlp_b2s (L : List Int) (k : Nat) : b2s (wlp L (k + 1)) = b2s (wlp L k) ++ b2s [nth L (3 + k), nth L (11 + k)] := by rw [wlp_succ, b2s_app]
def md (L : List Int) : List Int := L.map (· % 65536)
theorem nth_md (L : List Int) (i : Nat) : nth (md L) i = nth L i % 65536 := by
  simp only [nth, md, List.getD_eq_getElem?_getD, List.getElem?_map]
  cases L[i]? <;> simp
theorem drop_b2s (ns : List Int) : ∀ n, (b2s ns).drop (2 * n) = b2s (ns.drop n) := by
  induction ns with
  | nil => intro n; simp [b2s]
  | cons x l ih =>
    intro n
    cases n with
    | zero => simp
    | succ n =>
      show (be 2 x ++ b2s l).drop (2 * (n + 1)) = b2s (l.drop n)
      rw [show 2 * (n + 1) = (be 2 x).length + 2 * n by rw [be_len]; omega, ← List.drop_drop, List.drop_left, ih n]
theorem rv_b2s (ns : List Int) (n : Nat) (h : n < ns.length) : rv (b2s ns) n = nth ns n % 65536 := by
  rw [rv_plain _ _ (by rw [b2s_len]; omega), drop_b2s]
  have e : ns.drop n = nth ns n :: ns.drop (n + 1) := by
    rw [List.drop_eq_getElem_cons h]
    simp [nth, List.getD, h]
  rw [e]
  show numI ((be 2 (nth ns n) ++ b2s (ns.drop (n + 1))).take 2) = _
  rw [List.take_left' (be_len 2 _), ← be2_mod]
  exact numI_be 2 _ (by omega) (by have : (256 : Int) ^ 2 = 65536 := by decide
                                   omega)
theorem wlp_at (L : List Int) (j : Nat) (h : j < 19) : nth (wlp L 8) j = if j < 3 then nth L j else if j % 2 = 1 then nth L (3 + (j - 3) / 2) else nth L (11 + (j - 3) / 2) := by
  have h19 : j = 0 ∨ j = 1 ∨ j = 2 ∨ j = 3 ∨ j = 4 ∨ j = 5 ∨ j = 6 ∨ j = 7 ∨ j = 8 ∨ j = 9 ∨ j = 10 ∨ j = 11 ∨ j = 12 ∨ j = 13 ∨ j = 14 ∨ j = 15 ∨ j = 16 ∨ j = 17 ∨ j = 18 := by omega
  rcases h19 with rfl | rfl | rfl | rfl | rfl | rfl | rfl | rfl | rfl | rfl | rfl | rfl | rfl | rfl | rfl | rfl | rfl | rfl | rfl <;> rfl
theorem st_back {L : List Int} (hl : L.length = 19) : stL (b2s (wlp L 8)) = md L ∧ stE (b2s (wlp L 8)) = 0 := by
  have h38 : (b2s (wlp L 8)).length = 38 := by rw [b2s_len, wlp_len]
  refine ⟨?_, by unfold stE; rw [if_pos h38]⟩
  unfold stL
  rw [if_pos h38]
  refine ext_nth (by rw [rL_len, md, List.length_map, hl]) fun j hj => ?_
  rw [rL_len] at hj
  rw [rL_at _ _ _ hj, nth_md]
  have hw : (wlp L 8).length = 19 := wlp_len L 8
  by_cases h1 : j < 3
  · rw [if_pos h1, rv_b2s _ _ (by omega), wlp_at L j hj, if_pos h1]
  · rw [if_neg h1]
    by_cases h2 : j < 11
    · rw [if_pos h2, if_pos (by omega), rv_b2s _ _ (by omega), wlp_at L _ (by omega), if_neg (by omega), if_pos (by omega), show 3 + (3 + 2 * (j - 3) - 3) / 2 = j by omega]
    · rw [if_neg h2, if_pos (by omega), rv_b2s _ _ (by omega), wlp_at L _ (by omega), if_neg (by omega), if_neg (by omega), show 11 + (4 + 2 * (j - 11) - 3) / 2 = j by omega]
theorem eqg41 (x y : Operand) (A B : Array Value) (w : World) : (eqGuard .neq 41 x y (.agg A) (.agg B)).run Try.prog w = .ok () w ∧ (eqGuard .eql 41 x y (.agg A) (.agg B)).run Try.prog w = .ok () w := by
  have h : Try.prog.eqGuardType Try.prog.depth 41 = false := by kernel_rfl
  constructor <;> simp [eqGuard, h]
theorem wpList_neq41 {ops : Array Oper} {rest : List Oper} {o : Oper} {a : Act} {w : World} {Q : Exit → Act → World → Prop} (x y : Operand) (ho : o.op = .binOp .neq 41 x y 41) (hw : Region.wanted o (yielded ops a.tmps) = true)
    {A B : Array Value} {b : Bool} (hx : a.eval x = .agg A) (hy : a.eval y = .agg B) (he : (Op.equalIn 10000 41 (.agg A) (.agg B)).run Try.prog w = .ok b w)
    (h : wpList Try.prog ops Q rest (a.put o.dst (.bool (!b))) w) : wpList Try.prog ops Q (o :: rest) a w := by
  refine wpList_wanted hw fun K hK => ?_
  have he' : (Op.equalIn Op.maxDepth 41 (.agg A) (.agg B)).run Try.prog w = .ok b w := he
  unfold Oper.wp execOp
  simp only [ho, Sem.run_bind, hx, hy, (eqg41 x y A B w).1, Result.andThen_ok, binOp, Op.equal, he', Sem.run_pure]
  exact hK _ _ h
theorem wpList_eql41 {ops : Array Oper} {rest : List Oper} {o : Oper} {a : Act} {w : World} {Q : Exit → Act → World → Prop} (x y : Operand) (ho : o.op = .binOp .eql 41 x y 41) (hw : Region.wanted o (yielded ops a.tmps) = true)
    {A B : Array Value} {b : Bool} (hx : a.eval x = .agg A) (hy : a.eval y = .agg B) (he : (Op.equalIn 10000 41 (.agg A) (.agg B)).run Try.prog w = .ok b w)
    (h : wpList Try.prog ops Q rest (a.put o.dst (.bool b)) w) : wpList Try.prog ops Q (o :: rest) a w := by
  refine wpList_wanted hw fun K hK => ?_
  have he' : (Op.equalIn Op.maxDepth 41 (.agg A) (.agg B)).run Try.prog w = .ok b w := he
  unfold Oper.wp execOp
  simp only [ho, Sem.run_bind, hx, hy, (eqg41 x y A B w).2, Result.andThen_ok, binOp, Op.equal, he', Sem.run_pure]
  exact hK _ _ h
def wB (L : List Int) : Bool := decide (md L = L)
def wV (L : List Int) : List Int := if wB L = true then b2s (wlp L 8) else []
def wE (L : List Int) : Int := if wB L = true then 0 else 3
def WriteP (w : World) (L : List Int) (e : Ending) (w' : World) : Prop := ∃ x cap, e = .returned (.tuple #[.slice x (wV L).length cap, .int .i64 (wE L)]) ∧ Sees w' (.slice x (wV L).length cap) (wV L) ∧ Below w.heap.size w w'
theorem st_range {W : World} {g : Nat} {L : List Int} (h : W.heap[g]? = some (.cells (sc L).toArray 41 (0, 0))) (o : Nat) : W.rangeAt g o (sc ((L.drop o).take 8)) := by
  intro j v hj
  rw [cell_row h]
  have hjl := (List.getElem?_eq_some_iff.1 hj).1
  rw [sc_len, List.length_take] at hjl
  have : (sc ((L.drop o).take 8))[j]? = (sc L)[o + j]? := by
    simp only [sc, List.getElem?_map]
    rw [List.getElem?_take_of_lt (by omega), List.getElem?_drop]
  rw [← hj, this]
  simp
theorem idx39 (L : List Int) (o k : Nat) (ho : o + 8 ≤ L.length) (hk : k < 8) (w : World) : (Instr.index 39 (.agg (sc ((L.drop o).take 8)).toArray) (.int .i64 (k : Int))).run Try.prog w = .ok (.int .i64 (nth L (o + k))) w := by
  have hs := nth_part L o k ho hk
  have ht : Try.prog.underlying 39 = some (.array 8 3) := by kernel_rfl
  have hz : (sizeOf 3).run Try.prog w = .ok 1 w := by kernel_rfl
  generalize (sc ((L.drop o).take 8)).toArray = A at *
  simp [Instr.index, run_underlying ht, run_underlying Try.underlying3, isAgg, asIntOf, part, hk, hs, hz]
set_option maxRecDepth 100000 in
set_option maxHeartbeats 4000000 in
theorem writeC {L : List Int} (hl : L.length = 19) (w : World) : Calls Try.prog 15 #[.agg (sc L).toArray] w (WriteP w L) := by
  have ic := Lib.hid (i41 hl)
  have i8 : Hid ((Try.prog.info? 39).map (·.size) = some (sc ((L.drop 3).take 8)).length) := by
    show _ = _
    rw [sc_len, List.length_take, List.length_drop, hl]
    kernel_rfl
  have IX : Hid (∀ k : Nat, k < 8 → ∀ w, (Instr.index 39 (.agg (sc ((L.drop 3).take 8)).toArray) (.int .i64 (k : Int))).run Try.prog w = .ok (.int .i64 (nth L (3 + k))) w) := fun k hk w => idx39 L 3 k (by omega) hk w
  obtain ⟨w1, hw1⟩ : ∃ w1, w1 = w.alloc (.cells (sc L).toArray 41) := ⟨_, rfl⟩
  have B1 : Hid (Below w.heap.size w w1) := by show Below _ _ _; rw [hw1]; exact (Below.refl _ _).alloc (Nat.le_refl _) _
  have g1 : w1.heap[w.heap.size]? = some (.cells (sc L).toArray 41 (0, 0)) := by rw [hw1]; exact heap_alloc_new w _
  have HW1 := Lib.hid hw1
  have CE : Hid (∀ W : World, W.heap[w.heap.size]? = some (.cells (sc L).toArray 41 (0, 0)) → ∀ k, k < 19 → W.cell? ⟨w.heap.size, k, none⟩ = some (.int .i64 (nth L k))) := fun W h k hk => st_cell h k (by omega)
  have RG : Hid (∀ W : World, W.heap[w.heap.size]? = some (.cells (sc L).toArray 41 (0, 0)) → W.rangeAt w.heap.size 3 (sc ((L.drop 3).take 8))) := fun W h => st_range h 3
  have SB := st_back hl
  have L38 : (b2s (wlp L 8)).length = 38 := by rw [b2s_len, wlp_len]
  have RD : Hid (∀ W v, Sees W v (b2s (wlp L 8)) → Calls Try.prog 18 #[v] W fun e w' => e = .returned (.tuple #[.agg (sc (md L)).toArray, .int .i64 0]) ∧ Below W.heap.size W w') := fun W v h => by
    have hh := readC v _ (by omega) W h
    unfold ReadS at hh
    rw [SB.1, SB.2] at hh
    exact hh
  have EQ : Hid (∀ W, (Op.equalIn 10000 41 (.agg (sc (md L)).toArray) (.agg (sc L).toArray)).run Try.prog W = .ok (wB L) W) := fun W => eq41 (by rw [md, List.length_map, hl]) hl W
  have STEP := Lib.hid (wlp_b2s L)
  have LEN : Hid (∀ k, (b2s (wlp L k)).length = 6 + 4 * k) := fun k => by rw [b2s_len, wlp_len]; omega
  have YES : Hid (wB L = true → ∀ W x c, Below w.heap.size w W → Sees W (.slice x (b2s (wlp L 8)).length c) (b2s (wlp L 8)) → WriteP w L (.returned (.tuple #[.slice x (b2s (wlp L 8)).length c, .int .i64 0])) W) := fun h W x c hb hs => by
    unfold WriteP wE wV
    rw [if_pos h, if_pos h]
    exact ⟨x, c, rfl, hs, hb⟩
  have NO : Hid (wB L = false → ∀ W, Below w.heap.size w W → WriteP w L (.returned (.tuple #[.slice none 0 0, .int .i64 3])) W) := fun h W hb => by
    unfold WriteP wE wV
    rw [h]
    exact ⟨none, 0, rfl, sees_nil _, hb⟩
  have G0 : Hid (b2s (wlp L 0) = b2s [nth L 0, nth L 1, nth L 2]) := rfl
  have im := i41 (L := md L) (by rw [md, List.length_map, hl])
  have om := sc_one (md L)
  obtain ⟨PP, hPP⟩ : ∃ PP, PP = WriteP w L := ⟨_, rfl⟩
  rw [← hPP] at YES NO ⊢
  obtain ⟨M, hM⟩ : ∃ M, M = (sc (md L)).toArray := ⟨_, rfl⟩
  rw [← hM] at RD EQ im om
  obtain ⟨A8, hA8⟩ : ∃ A8, A8 = sc ((L.drop 3).take 8) := ⟨_, rfl⟩
  rw [← hA8] at i8 IX RG
  obtain ⟨V, hV⟩ : ∃ V, V = nth L := ⟨_, rfl⟩
  rw [← hV] at IX CE STEP G0
  obtain ⟨K, hK⟩ : ∃ K : Nat → List Int, K = fun k => b2s (wlp L k) := ⟨_, rfl⟩
  have K8 : b2s (wlp L 8) = K 8 := by rw [hK]
  have K0 : b2s (wlp L 0) = K 0 := by rw [hK]
  rw [K8] at RD YES
  rw [K0] at G0
  have STEP2 : Hid (∀ k, K (k + 1) = K k ++ b2s [V (3 + k), V (11 + k)]) := fun k => by rw [hK]; exact STEP.out k
  have LEN2 : Hid (∀ k, (K k).length = 6 + 4 * k) := fun k => by rw [hK]; exact LEN.out k
  obtain ⟨C, hC⟩ : ∃ C, C = (sc L).toArray := ⟨_, rfl⟩
  rw [← hC] at ic g1 CE RG EQ ⊢
  rw [← hC] at HW1
  obtain ⟨bb, hbb⟩ : ∃ bb, bb = wB L := ⟨_, rfl⟩
  rw [← hbb] at EQ YES NO
  have G1 := Lib.hid g1
  have c0 := CE.out w1 g1 0 (by omega)
  have c1 := CE.out w1 g1 1 (by omega)
  have c2 := CE.out w1 g1 2 (by omega)
  have IM := Lib.hid im
  have OM := Lib.hid om
  obtain ⟨Z, hZ⟩ : ∃ Z, Z = (sc zL).toArray := ⟨_, rfl⟩
  have z := z41
  have i0 := i41 (L := zL) rfl
  rw [← hZ] at z i0
  have HZ := Lib.hid z
  have IZM : Hid (Z.size = M.size) := Option.some.inj (i0.symm.trans im)
  clear hw1 g1 SB L38 STEP LEN hPP hM hA8 hV hK K8 K0 hC hbb hl im om z i0 hZ
  go_enter Try.func15, Try.ntmps15
  go_upto_region 1 with (fail)
  rw [← HW1.out]
  go_wp2_with fail
  clear c0 c1 c2
  have gr := heap_alloc_new w1 (.cells #[.int .i64 (V 0), .int .i64 (V 1), .int .i64 (V 2)] 3)
  have hba : Below w1.heap.size w1 (w1.alloc (.cells #[.int .i64 (V 0), .int .i64 (V 1), .int .i64 (V 2)] 3)) := (Below.refl _ _).alloc (Nat.le_refl _) _
  have P := gatheredC (.slice (some ⟨w1.heap.size, 0, none⟩) 3 3) [V 0, V 1, V 2] _ (is_row (ns := [V 0, V 1, V 2]) gr) (by show 3 ≤ 100; omega)
  rw [← G0.out] at P
  refine P.mono ?_
  rintro e w2 ⟨x2, cp2, rfl, ho, hb⟩
  have hZ1 : Hid (w.heap.size < w1.heap.size) := blk_lt G1.out
  have B2 := Lib.hid ((B1.out.trans (hba.mono B1.out.size)).trans (hb.mono (by have := B1.out.size; have := hba.size; omega)))
  have G2 := Lib.hid ((hb.block _ (by have := hZ1.out; have := hba.size; omega)).trans ((hba.block _ hZ1.out).trans G1.out))
  have O2 : Hid (Own w2 w1.heap.size (.slice x2 (K 0).length cp2) (K 0)) := by
    obtain ⟨h1, h2, h3⟩ := ho
    refine ⟨h1, h2, ?_⟩
    rcases h3 with h3 | ⟨g, c, cu, e1, e2, e3⟩
    · exact .inl h3
    · exact .inr ⟨g, c, cu, e1, by have := hba.size; omega, e3⟩
  clear gr hba P ho hb G0 G1 B1 HW1
  go_wp2_with (first | (refine wpList_load_mid rfl 39 (.tmp 17) rfl w.heap.size 3 rfl A8 _ (RG.out w2 G2.out) Try.underlying39 rfl i8.out ?_))
  go_loopw [4, 19] (fun v4 v19 wr => ∃ i : Nat, i ≤ 8 ∧ v19 = .int .i64 (i : Int) ∧ (∃ x c, v4 = .slice x (K i).length c ∧ Own wr w1.heap.size (.slice x (K i).length c) (K i)) ∧ wr.heap[w.heap.size]? = some (.cells C 41 (0, 0)) ∧ Below w.heap.size w wr) (fun _ v19 _ => 8 - (intOf v19).toNat)
  case atStart => exact ⟨0, by omega, rfl, ⟨x2, cp2, rfl, O2.out⟩, G2.out, B2.out⟩
  case round =>
    obtain ⟨i, hi, rfl, ⟨x, c, rfl, how⟩, hgr, hb⟩ := hrel
    have HO := Lib.hid how
    have GR := Lib.hid hgr
    have HB := Lib.hid hb
    clear how hgr hb O2 G2 B2
    by_cases hlt : i < 8
    · have HI8 := Lib.hid hlt
      have hii : (i : Int) < 8 := by omega
      have ix := IX.out i hlt
      have cc := CE.out wr GR.out (11 + i) (by omega)
      have EQ2 := Lib.hid (STEP2.out i)
      have LI := LEN2.out i
      generalize V (3 + i) = va at ix EQ2
      generalize V (11 + i) = vb at cc EQ2
      have HLI := Lib.hid LI
      clear LI
      go_wp2_with fail
      clear ix cc
      have gr := heap_alloc_new wr (.cells #[.int .i64 va, .int .i64 vb] 3)
      have hba : Below wr.heap.size wr (wr.alloc (.cells #[.int .i64 va, .int .i64 vb] 3)) := (Below.refl _ _).alloc (Nat.le_refl _) _
      have P := gatheredC (.slice (some ⟨wr.heap.size, 0, none⟩) 2 2) [va, vb] _ (is_row (ns := [va, vb]) gr) (by show 2 ≤ 100; omega)
      refine P.mono ?_
      rintro e w3 ⟨x3, cp3, rfl, ho, hb⟩
      have hb' : Below wr.heap.size wr w3 := hba.trans (hb.mono hba.size)
      have hlz : w1.heap.size ≤ w3.heap.size := by
        rcases HO.out.2.2 with ⟨e1, e2⟩ | ⟨g, cc, cu, e1, e2, e3, _⟩
        · have h1 := HLI.out
          rw [e2] at h1
          omega
        · have := blk_lt e3; have := hb'.size; omega
      have lb : (b2s [va, vb]).length = 4 := by rw [b2s_len]; rfl
      obtain ⟨x4, c4, w4, hr4, ho4, _, hb4⟩ := app (HO.out.below hb') ho.sees (by rw [HLI.out, lb]; omega) hlz
      have HR4 := Lib.hid hr4
      have B4 := Lib.hid ((HB.out.trans (hb'.mono HB.out.size)).trans (hb4.mono (Nat.le_of_lt hZ1.out)))
      have G4 := Lib.hid ((hb4.block _ hZ1.out).trans ((hb'.block _ (blk_lt GR.out)).trans GR.out))
      have O4 : Hid (Own w4 w1.heap.size (.slice x4 (K (i + 1)).length c4) (K (i + 1))) := by
        rw [EQ2.out, List.length_append]; exact ho4
      have HV : Hid (Value.slice x4 ((K i).length + (b2s [va, vb]).length) c4 = .slice x4 (K (i + 1)).length c4) := by show _ = _; rw [EQ2.out, List.length_append]
      generalize (K i).length = lk at *
      generalize (b2s [va, vb]).length = l4 at *
      clear gr hba P ho hb hb' hlz lb hr4 ho4 hb4 GR HO HB
      go_wp2_with (first | (at_builtin; refine wpList_app rfl (.tmp 23) (.tmp 30) rfl rfl rfl rfl HR4.out ?_))
      go_roundw
      case rel => exact ⟨i + 1, by have := HI8.out; omega, by go_num, ⟨x4, c4, HV.out, O4.out⟩, G4.out, B4.out⟩
      case measure => simp [intOf]; have := HI8.out; omega
    · have hge : ¬ (i : Int) < 8 := by omega
      obtain rfl : i = 8 := by omega
      go_wp2_with fail
      refine (RD.out wr _ HO.out.sees).mono ?_
      rintro e w3 ⟨rfl, hb⟩
      have B3 := Lib.hid (HB.out.trans (hb.mono HB.out.size))
      have G3 := Lib.hid ((hb.block _ (blk_lt GR.out)).trans GR.out)
      have S3 := Lib.hid (HO.out.sees.below hb)
      obtain ⟨w4, hw4⟩ : ∃ w4, w4 = w3.alloc (.cells M 41) := ⟨_, rfl⟩
      have RNN : Hid ((w3.alloc (.cells Z 41)).setRow w3.heap.size M = w4) := by show _ = _; rw [hw4]; exact alloc_setRowT w3 Z M 41 _ rfl
      have GZN : Hid ((w3.alloc (.cells Z 41)).heap[w3.heap.size]? = some (.cells Z 41 (0, 0))) := heap_alloc_new w3 _
      have hb4 : Below w3.heap.size w3 w4 := by rw [hw4]; exact (Below.refl _ _).alloc (Nat.le_refl _) _
      have M4 : Hid (w4.heap[w3.heap.size]? = some (.cells M 41 (0, 0))) := by show _ = _; rw [hw4]; exact heap_alloc_new w3 _
      have B4 := Lib.hid (B3.out.trans (hb4.mono B3.out.size))
      have G4 := Lib.hid ((hb4.block _ (blk_lt G3.out)).trans G3.out)
      have S4 := Lib.hid (S3.out.below hb4)
      clear hb hw4 hb4 B3 G3 S3 HO GR HB hlt hge
      cases bb with
      | true =>
        have FIN := Lib.hid (YES.out rfl)
        go_wp2_with (first | (refine wpList_alloc_z rfl 41 rfl (HZ.out w3) ?_; refine wpList_store_row rfl 41 (.tmp 7) (.tmp 36) rfl w3.heap.size M rfl rfl 41 Z GZN.out IM.out IZM.out OM.out ?_; rw [RNN.out]) | (refine wpList_load_met rfl 41 (.tmp 7) rfl w3.heap.size rfl 41 M (0, 0) _ M4.out Try.underlying41 ⟨_, rfl⟩ IM.out ?_) | (refine wpList_load_met rfl 41 (.tmp 1) rfl w.heap.size rfl 41 C (0, 0) _ G4.out Try.underlying41 ⟨_, rfl⟩ ic.out ?_; refine wpList_neq41 (.tmp 41) (.tmp 42) rfl rfl rfl rfl (EQ.out w4) ?_))
        exact FIN.out _ _ _ B4.out S4.out
      | false =>
        have FIN := Lib.hid (NO.out rfl)
        go_wp2_with (first | (refine wpList_alloc_z rfl 41 rfl (HZ.out w3) ?_; refine wpList_store_row rfl 41 (.tmp 7) (.tmp 36) rfl w3.heap.size M rfl rfl 41 Z GZN.out IM.out IZM.out OM.out ?_; rw [RNN.out]) | (refine wpList_load_met rfl 41 (.tmp 7) rfl w3.heap.size rfl 41 M (0, 0) _ M4.out Try.underlying41 ⟨_, rfl⟩ IM.out ?_) | (refine wpList_load_met rfl 41 (.tmp 1) rfl w.heap.size rfl 41 C (0, 0) _ G4.out Try.underlying41 ⟨_, rfl⟩ ic.out ?_; refine wpList_neq41 (.tmp 41) (.tmp 42) rfl rfl rfl rfl (EQ.out w4) ?_))
        exact FIN.out _ B4.out
end Go.Proofs.Ytabopcfhonkecaa
