/-
  For all counts, volumes, blocks, roots, tenants and values the law EntryBack of package casematelaw23 returns true: all go there and back, in one way alone. Condition: none.
-/
import Derived.Test.YtbhkhkiidaemcaaEntryBackA
namespace Go.Proofs.Ytbhkhkiidaemcaa.entryBack
open Go.ChangeShapes Go.WideShapes Go.ChangeAt Go.RowKit
theorem ret_wr {f : FuncId} {X : Array Value} {m : Prop} [Decidable m] {V : List Int} (h : ∀ W, Calls Try.prog f #[.agg X] W (WrP W m V)) : Ret f #[.agg X] (.tuple #[.agg (bcells (if m then V else zs 44)), .int .i64 (if m then 0 else 3)]) := h
theorem ret_ch {f : FuncId} {A : Array Value} {m : Prop} [Decidable m] {V v : List Int} {X Z : Array Value} (h : ∀ W, Calls Try.prog f #[.agg A] W (ChP W m V v (.agg X) (.agg Z))) :
    Ret f #[.agg A] (.tuple #[.agg (if m ∧ V = v then X else Z), .int .i64 (if m ∧ V = v then 0 else 3)]) := fun W => by
  have := h W
  unfold ChP at this
  by_cases c : m ∧ V = v
  · rw [if_pos c, if_pos c] at this; rw [if_pos c, if_pos c]; exact this
  · rw [if_neg c, if_neg c] at this; rw [if_neg c, if_neg c]; exact this
theorem sz38 {V : List Int} (h : V.length = 44) : (bcells (zs 44)).size = (bcells V).size := bcells_sz (by rw [zs_len, h])
theorem iteC {α : Type} {P : α → Prop} {m : Prop} [Decidable m] {a b : α} (ha : P a) (hb : P b) : P (if m then a else b) := by
  split
  · exact ha
  · exact hb
theorem size_o (h : Bool) (s : Int) (z : List Int) (hz : z.length = 32) : (ocells false 0 (zs 32)).size = (ocells h s z).size := by simp [ocells, rcells, hz, zs_len]
theorem size_n (z : List Int) (r q c : Int) (hz : z.length = 32) : (ncells (zs 32) 0 0 0).size = (ncells z r q c).size := by simp [ncells, hz, zs_len]
theorem eqs30 (n b : Int) : Eqs 30 (vcells n b) (vcells n b) := fun w => by rw [eq30]; simp
theorem eqs38 {v : List Int} (hv : Byt v) (hl : v.length = 44) : Eqs 38 (bcells v) (bcells v) := fun w => by rw [eq38 v v hv hv hl hl]; simp
theorem writeVol (n b : Int) (h : 0 ≤ n ∧ n ≤ 18446744073709551615) (w : World) : Calls Try.prog 16 #[.agg (vcells n b)] w (WrP w (vMay b) (vW n b)) := by
  by_cases hm : vMay b
  · exact writeVol_yes n b h.1 h.2 hm w
  · exact writeVol_no n b hm w
/-- What was read of a value: a volume, or the zero one. -/
theorem vcells_ite {m : Prop} [Decidable m] (n b : Int) : (if m then vcells n b else vcells 0 0) = vcells (if m then n else 0) (if m then b else 0) := by split <;> rfl
theorem ocells_ite {m : Prop} [Decidable m] (h : Bool) (s : Int) (z : List Int) : (if m then ocells h s z else ocells false 0 (zs 32)) = ocells (if m then h else false) (if m then s else 0) (if m then z else zs 32) := by split <;> rfl
theorem ncells_ite {m : Prop} [Decidable m] (z : List Int) (r q c : Int) : (if m then ncells z r q c else ncells (zs 32) 0 0 0) = ncells (if m then z else zs 32) (if m then r else 0) (if m then q else 0) (if m then c else 0) := by split <;> rfl
theorem i03 {m : Prop} [Decidable m] (h : m) : ((if m then (0 : Int) else 3) == 0) = true ∧ ((if m then (0 : Int) else 3) != 0) = false := by rw [if_pos h]; exact ⟨rfl, rfl⟩
theorem i03n {m : Prop} [Decidable m] (h : ¬ m) : ((if m then (0 : Int) else 3) == 0) = false ∧ ((if m then (0 : Int) else 3) != 0) = true := by rw [if_neg h]; exact ⟨rfl, rfl⟩
set_option maxHeartbeats 4000000 in
theorem walk (n vn vb ks kt os nr nq nc : Int) (kz oz nz v : List Int) (oh : Bool) (hn : 0 ≤ n ∧ n ≤ 18446744073709551615) (hvn : 0 ≤ vn ∧ vn ≤ 18446744073709551615) (hks : 0 ≤ ks ∧ ks ≤ 4294967295) (bkz : Byt kz) (lkz : kz.length = 32) (hkt : 0 ≤ kt ∧ kt ≤ 18446744073709551615)
    (hos : 0 ≤ os ∧ os ≤ 4294967295) (boz : Byt oz) (loz : oz.length = 32) (bnz : Byt nz) (lnz : nz.length = 32) (hv : Byt v) (hl : v.length = 44) (w : World) :
    Calls Try.prog 6 #[.int .u64 n, .agg (vcells vn vb), .agg (kcells ks kz kt), .agg (ocells oh os oz), .agg (ncells nz nr nq nc), .agg (bcells v)] w (WP w) := by
  obtain ⟨A1, hA1⟩ : ∃ A1 : List Int, A1 = if vMay vb then vW vn vb else zs 44 := ⟨_, rfl⟩
  obtain ⟨A2, hA2⟩ : ∃ A2 : List Int, A2 = if oMay oh os oz then oW oh os oz else zs 44 := ⟨_, rfl⟩
  obtain ⟨A3, hA3⟩ : ∃ A3 : List Int, A3 = if nMay nr nq nc then nW nz nr nq nc else zs 44 := ⟨_, rfl⟩
  have bA1 : Byt A1 := by rw [hA1]; exact iteC (P := Byt) (vW_byt _ _) (zs_byt _)
  have bA2 : Byt A2 := by rw [hA2]; exact iteC (P := Byt) (oW_byt boz) (zs_byt _)
  have bA3 : Byt A3 := by rw [hA3]; exact iteC (P := Byt) (nW_byt bnz) (zs_byt _)
  have lA1 : A1.length = 44 := by rw [hA1]; exact iteC (P := fun l : List Int => l.length = 44) (vW_len _ _) (zs_len _)
  have lA2 : A2.length = 44 := by rw [hA2]; exact iteC (P := fun l : List Int => l.length = 44) (oW_len loz) (zs_len _)
  have lA3 : A3.length = 44 := by rw [hA3]; exact iteC (P := fun l : List Int => l.length = 44) (nW_len lnz) (zs_len _)
  have zl5 : (oZ v).length = 32 := pt_len v 5 32 (by omega)
  have zl6 : (nZ v).length = 32 := pt_len v 0 32 (by omega)
  have sb : 0 ≤ oS v ∧ oS v ≤ 4294967295 := num32 (pt_byt hv 1 4) (pt_len v 1 4 (by omega))
  have nb : 0 ≤ vN v ∧ vN v ≤ 18446744073709551615 := num64 (pt_byt hv 0 8) (pt_len v 0 8 (by omega))
  have zlA2 : (oZ A2).length = 32 := pt_len A2 5 32 (by omega)
  have zlA3 : (nZ A3).length = 32 := pt_len A3 0 32 (by omega)
  have K4 := ret_wr (writeVol (if vMay (vB v) ∧ vW (vN v) (vB v) = v then vN v else 0) (if vMay (vB v) ∧ vW (vN v) (vB v) = v then vB v else 0) (iteC (P := fun x : Int => 0 ≤ x ∧ x ≤ 18446744073709551615) nb (by decide)))
  rw [← vcells_ite] at K4
  have K5 := ret_wr (writeRoot (if oMay (oH v) (oS v) (oZ v) ∧ oW (oH v) (oS v) (oZ v) = v then oH v else false) (if oMay (oH v) (oS v) (oZ v) ∧ oW (oH v) (oS v) (oZ v) = v then oS v else 0) (if oMay (oH v) (oS v) (oZ v) ∧ oW (oH v) (oS v) (oZ v) = v then oZ v else zs 32)
    (iteC (P := fun x : Int => 0 ≤ x) sb.1 (by decide)) (iteC (P := fun x : Int => x ≤ 4294967295) sb.2 (by decide)) (iteC (P := Byt) (pt_byt hv 5 32) (zs_byt _)) (iteC (P := fun l : List Int => l.length = 32) zl5 (zs_len _)))
  rw [← ocells_ite] at K5
  have K6 := ret_wr (writeTen (if nMay (nR v) (nQ v) (nC v) ∧ nW (nZ v) (nR v) (nQ v) (nC v) = v then nZ v else zs 32) (if nMay (nR v) (nQ v) (nC v) ∧ nW (nZ v) (nR v) (nQ v) (nC v) = v then nR v else 0) (if nMay (nR v) (nQ v) (nC v) ∧ nW (nZ v) (nR v) (nQ v) (nC v) = v then nQ v else 0) (if nMay (nR v) (nQ v) (nC v) ∧ nW (nZ v) (nR v) (nQ v) (nC v) = v then nC v else 0)
    (iteC (P := Byt) (pt_byt hv 0 32) (zs_byt _)) (iteC (P := fun l : List Int => l.length = 32) zl6 (zs_len _)))
  rw [← ncells_ite] at K6
  have K16 := ret_wr (writeVol vn vb hvn)
  have K26 := ret_wr (writeRoot oh os oz hos.1 hos.2 boz loz)
  have K27 := ret_wr (writeTen nz nr nq nc bnz lnz)
  rw [← hA1] at K16
  rw [← hA2] at K26
  rw [← hA3] at K27
  refine core n (vcells vn vb) (kcells ks kz kt) (ocells oh os oz) (ncells nz nr nq nc) (bcells v) (bcells (cW n)) (bcells (kW ks kz kt)) (bcells A1) (bcells A2) (bcells A3) _ _ _ _ _ _ _ _ _ (vcells 0 0) (bcells (zs 44)) (ocells false 0 (zs 32)) (ncells (zs 32) 0 0 0) _ _ _ _ _ _ _ _ _ _ _ _
    (Lib.hid (fun W => writeCount n hn.1 hn.2 W)) (Lib.hid ?k20) (Lib.hid (fun W => writeBlk ks kz kt hks.1 hks.2 bkz lkz hkt.1 hkt.2 W)) (Lib.hid ?k22) (Lib.hid (eq37 bkz lkz)) (Lib.hid K16) (Lib.hid K26) (Lib.hid K27)
    (Lib.hid (ret_ch (readVol A1 bA1 lA1))) (Lib.hid (ret_ch (readRoot A2 bA2 lA2))) (Lib.hid (ret_ch (readTen A3 bA3 lA3))) (Lib.hid (ret_ch (readVol v hv hl))) (Lib.hid (ret_ch (readRoot v hv hl))) (Lib.hid (ret_ch (readTen v hv hl)))
    (Lib.hid K4) (Lib.hid K5) (Lib.hid K6) (Lib.hid ?b1) (Lib.hid ?b2) (Lib.hid ?b3) (Lib.hid ?c4) (Lib.hid ?c5) (Lib.hid ?c6)
    (Lib.hid i30) (Lib.hid (i37 lkz)) (Lib.hid (i55 loz)) (Lib.hid (i57 lnz)) (Lib.hid (i38 hl))
    (Lib.hid (i38 lA1)) (Lib.hid (sz38 lA1)) (Lib.hid (one_cells _)) (Lib.hid (i38 lA2)) (Lib.hid (sz38 lA2)) (Lib.hid (one_cells _)) (Lib.hid (i38 lA3)) (Lib.hid (sz38 lA3)) (Lib.hid (one_cells _))
    (Lib.hid (iteC (P := Iz 30) i30 i30)) (Lib.hid (iteC (P := fun x : Array Value => (vcells 0 0).size = x.size) rfl rfl)) (Lib.hid (iteC (P := On) (one_v _ _) (one_v _ _)))
    (Lib.hid (iteC (P := Iz 55) (i55 zlA2) (i55 (zs_len _)))) (Lib.hid (iteC (P := fun x : Array Value => (ocells false 0 (zs 32)).size = x.size) (size_o _ _ _ zlA2) rfl)) (Lib.hid (iteC (P := On) (one_o _ _ _) (one_o _ _ _)))
    (Lib.hid (iteC (P := Iz 57) (i57 zlA3) (i57 (zs_len _)))) (Lib.hid (iteC (P := fun x : Array Value => (ncells (zs 32) 0 0 0).size = x.size) (size_n _ _ _ _ zlA3) rfl)) (Lib.hid (iteC (P := On) (one_n _ _ _ _) (one_n _ _ _ _)))
    (Lib.hid (iteC (P := Iz 30) i30 i30)) (Lib.hid (iteC (P := fun x : Array Value => (vcells 0 0).size = x.size) rfl rfl)) (Lib.hid (iteC (P := On) (one_v _ _) (one_v _ _)))
    (Lib.hid (iteC (P := Iz 55) (i55 zl5) (i55 (zs_len _)))) (Lib.hid (iteC (P := fun x : Array Value => (ocells false 0 (zs 32)).size = x.size) (size_o _ _ _ zl5) rfl)) (Lib.hid (iteC (P := On) (one_o _ _ _) (one_o _ _ _)))
    (Lib.hid (iteC (P := Iz 57) (i57 zl6) (i57 (zs_len _)))) (Lib.hid (iteC (P := fun x : Array Value => (ncells (zs 32) 0 0 0).size = x.size) (size_n _ _ _ _ zl6) rfl)) (Lib.hid (iteC (P := On) (one_n _ _ _ _) (one_n _ _ _ _)))
    (Lib.hid (i38 ?l4)) (Lib.hid (sz38 ?m4)) (Lib.hid (one_cells _)) (Lib.hid (i38 ?l5)) (Lib.hid (sz38 ?m5)) (Lib.hid (one_cells _)) (Lib.hid (i38 ?l6)) (Lib.hid (sz38 ?m6)) (Lib.hid (one_cells _))
    z30 z38 z55 z57 w
  case k20 =>
    exact fun W => by
      have h := readCount (cW n) (cW_byt n) (cW_len n) W
      unfold ChP at h
      rw [cN_cW hn, if_pos ⟨trivial, rfl⟩, if_pos ⟨trivial, rfl⟩] at h
      exact h
  case k22 =>
    exact fun W => by
      have h := readBlk (kW ks kz kt) (kW_byt bkz) (kW_len lkz) W
      obtain ⟨e1, e2, e3⟩ := k_back hks lkz hkt
      rw [e1, e2, e3] at h
      exact h
  case b1 =>
    by_cases m : vMay vb
    · left
      have e : A1 = vW vn vb := by rw [hA1, if_pos m]
      have e1 : vN A1 = vn := by rw [e]; exact vN_vW hvn
      have e2 : vB A1 = vb := by rw [e]; exact vB_vW ⟨by have := m.1; omega, by have := m.2; omega⟩
      have c : vMay (vB A1) ∧ vW (vN A1) (vB A1) = A1 := by rw [e1, e2]; exact ⟨m, e.symm⟩
      refine ⟨(i03 m).1, (i03 c).2, ?_⟩
      rw [if_pos c, e1, e2]
      exact eqs30 _ _
    · exact .inr (i03n m).1
  case b2 =>
    by_cases m : oMay oh os oz
    · left
      have e : A2 = oW oh os oz := by rw [hA2, if_pos m]
      obtain ⟨e1, e2, e3⟩ := o_back (h := oh) hos loz
      rw [← e] at e1 e2 e3
      have c : oMay (oH A2) (oS A2) (oZ A2) ∧ oW (oH A2) (oS A2) (oZ A2) = A2 := by rw [e1, e2, e3]; exact ⟨m, e.symm⟩
      refine ⟨(i03 m).1, (i03 c).2, ?_⟩
      rw [if_pos c, e1, e2, e3]
      exact eq55 boz loz
    · exact .inr (i03n m).1
  case b3 =>
    by_cases m : nMay nr nq nc
    · left
      have e : A3 = nW nz nr nq nc := by rw [hA3, if_pos m]
      obtain ⟨e1, e2, e3, e4⟩ := n_back lnz m
      rw [← e] at e1 e2 e3 e4
      have c : nMay (nR A3) (nQ A3) (nC A3) ∧ nW (nZ A3) (nR A3) (nQ A3) (nC A3) = A3 := by rw [e1, e2, e3, e4]; exact ⟨m, e.symm⟩
      refine ⟨(i03 m).1, (i03 c).2, ?_⟩
      rw [if_pos c, e1, e2, e3, e4]
      exact eq57 bnz lnz
    · exact .inr (i03n m).1
  case c4 =>
    by_cases c : vMay (vB v) ∧ vW (vN v) (vB v) = v
    · right
      refine ⟨(i03 c).2, ?_⟩
      rw [if_pos c, if_pos c, if_pos c.1, c.2]
      exact eqs38 hv hl
    · exact .inl (i03n c).2
  case c5 =>
    by_cases c : oMay (oH v) (oS v) (oZ v) ∧ oW (oH v) (oS v) (oZ v) = v
    · right
      refine ⟨(i03 c).2, ?_⟩
      rw [if_pos c, if_pos c, if_pos c, if_pos c.1, c.2]
      exact eqs38 hv hl
    · exact .inl (i03n c).2
  case c6 =>
    by_cases c : nMay (nR v) (nQ v) (nC v) ∧ nW (nZ v) (nR v) (nQ v) (nC v) = v
    · right
      refine ⟨(i03 c).2, ?_⟩
      rw [if_pos c, if_pos c, if_pos c, if_pos c, if_pos c.1, c.2]
      exact eqs38 hv hl
    · exact .inl (i03n c).2
  all_goals first
    | exact iteC (P := fun l : List Int => l.length = 44) (vW_len _ _) (zs_len _)
    | exact iteC (P := fun l : List Int => l.length = 44) (oW_len (iteC (P := fun l : List Int => l.length = 32) zl5 (zs_len _))) (zs_len _)
    | exact iteC (P := fun l : List Int => l.length = 44) (nW_len (iteC (P := fun l : List Int => l.length = 32) zl6 (zs_len _))) (zs_len _)

set_option maxRecDepth 100000 in
set_option maxHeartbeats 4000000 in
theorem lifted (os : Os) (started : os.Started) (H : Type) (enc : TypeId × Value → H) :
    ReturnsInHanded {} Try.checked os 6 .any (Rows.entryBackSpec.pre6 enc Try.prog Try.f6 Rows.entryBackRow.domain false) (Rows.entryBackSpec.post enc Try.prog Try.f6 false true false false) := by
  refine returnsInHanded_of_change (C := Try.checked) own started (by kernel_rfl) Try.func6
    (ChangeSpec.witness6 (enc := enc) (C := Try.checked) false ⟨#[], #[.int .u64 0, .agg #[.int .u64 0, .int .i64 0], .agg (#[.int .u32 0] ++ Array.replicate 32 (.int .u8 0) ++ #[.int .u64 0]), .agg (#[.bool false, .int .u32 0] ++ Array.replicate 32 (.int .u8 0)), .agg (Array.replicate 32 (.int .u8 0) ++ #[.int .i64 0, .int .i64 0, .int .i64 0]), .agg (Array.replicate 44 (.int .u8 0))], []⟩ 100 (by kernel_rfl) (by kernel_rfl) (by kernel_rfl) (by kernel_rfl)) ?_
  intro W base args ds gs before hval0 hW hcnd _
  have hval : ∀ (j : Nat) t v, Try.f6.params[j]? = some t → args[j]? = some v → Value.okWide Try.prog W .any base t v := hval0
  have hW' := hW
  obtain ⟨p, q, hA0, hV, rfl, hfz, hnd⟩ := hW
  have hA : DataW.TrodAll enc Try.prog W 0 (fun _ => true) true Try.f6.params.toList args.toList ds p := hA0
  rw [Try.params6] at hA hval
  obtain ⟨v0, vs0, d0, ds0, p0, q0, hargs, rfl, rfl, h0, r0⟩ := trodAll_cons hA
  obtain ⟨v1, vs1, d1, ds1, p1, q1, rfl, rfl, rfl, h1, r1⟩ := trodAll_cons r0
  obtain ⟨v2, vs2, d2, ds2, p2, q2, rfl, rfl, rfl, h2, r2⟩ := trodAll_cons r1
  obtain ⟨v3, vs3, d3, ds3, p3, q3, rfl, rfl, rfl, h3, r3⟩ := trodAll_cons r2
  obtain ⟨v4, vs4, d4, ds4, p4, q4, rfl, rfl, rfl, h4, r4⟩ := trodAll_cons r3
  obtain ⟨v5, vs5, d5, ds5, p5, q5, rfl, rfl, rfl, h5, r5⟩ := trodAll_cons r4
  obtain ⟨rfl, rfl, rfl⟩ := trodAll_nil r5
  obtain rfl : args = #[v0, v1, v2, v3, v4, v5] := by cases args; simp_all
  obtain ⟨rfl, rfl⟩ := trodVars_none hV
  obtain ⟨a0, rfl, rfl, rfl, w0⟩ := open_int Try.underlying22 (hval 0 22 v0 rfl rfl) h0
  have b0 := bounds_u64 w0
  obtain ⟨x0, x1, hx, rfl⟩ := open_vol (hval 1 30 v1 rfl rfl) h1
  obtain ⟨y0, y1, y2, hy0, hy1, hy2, hy3, rfl⟩ := open_blk (hval 2 37 v2 rfl rfl) h2
  obtain ⟨rr0, rr1, rr2, hr0, hr1, hr2, rfl⟩ := open_root (hval 3 55 v3 rfl rfl) h3
  obtain ⟨t0, t1, t2, t3, ht1, ht2, rfl⟩ := open_ten (hval 4 57 v4 rfl rfl) h4
  obtain ⟨v0, hv0, hv1, rfl⟩ := open_val (hval 5 38 v5 rfl rfl) h5
  refine (walk a0 x0 x1 y0 y2 rr1 t1 t2 t3 y1 rr2 t0 v0 rr0 b0 hx hy0 hy1 hy2 hy3 hr0 hr1 hr2 ht1 ht2 hv0 hv1 W).mono fun e W' ⟨he, hb⟩ => ?_
  subst he
  exact ⟨_, rfl, law_post hW' rfl rfl rfl (by kernel_rfl) hb⟩

/-- The statement. -/
theorem proved : Rows.EntryBackSaid :=
  OpenClaim.holds_of_wide 6 Try.f6 rfl rfl rfl rfl rfl rfl rfl ⟨rfl, rfl, rfl, rfl, rfl⟩ rfl rfl rfl rfl rfl (by kernel_rfl) Try.func6 (by kernel_rfl)
    (of_decide_eq_true (by kernel_rfl)) (by unfold Func.isWrapper; first | (rw [if_pos (by decide +kernel)]; kernel_rfl) | (rw [if_neg (by decide +kernel)]; exact ⟨rfl, rfl⟩))
    (fun os started H enc _ => lifted os started H enc)
#print axioms proved
end Go.Proofs.Ytbhkhkiidaemcaa.entryBack
