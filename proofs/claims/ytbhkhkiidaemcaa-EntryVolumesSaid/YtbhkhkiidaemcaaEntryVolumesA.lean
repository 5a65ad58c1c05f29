/-
  For all counts, volumes, blocks and values the law EntryVolumes of package casematelaw23 returns true: counts, descriptions and blocks have their values, or may not be; and any value is one's, or not. Condition: none.
-/
import Derived.Test.YtbhkhkiidaemcaaEU
namespace Go.Proofs.Ytbhkhkiidaemcaa.entryVolumes
open Go.ChangeShapes Go.WideShapes Go.ChangeAt Go.RowKit
def Ret (f : FuncId) (args : Array Value) (r : Value) : Prop := ∀ W : World, Calls Try.prog f args W fun e w' => e = .returned r ∧ Below W.heap.size W w'
def Iz (T : TypeId) (A : Array Value) : Prop := (Try.prog.info? T).map (·.size) = some A.size
def On (A : Array Value) : Prop := A.all (·.oneCell') = true
/-- A call's own text. -/
def SL (w : World) (m : Nat) (L : List Int) (e : Ending) (w' : World) : Prop := ∃ x c, e = .returned (.slice x m c) ∧ Sees w' (.slice x m c) L ∧ Below w.heap.size w w'
def Txt (f : FuncId) (args : Array Value) (m : Nat) (L : List Int) : Prop := ∀ W : World, Calls Try.prog f args W (SL W m L)
def Row (w : World) (g t : Nat) (A : Array Value) : Prop := w.heap[g]? = some (.cells A t (0, 0))
theorem wrap_of {x : Int} (h0 : 0 ≤ x) (h1 : x ≤ 4294967295) : IntKind.u64.wrap x = x := by
  rw [IntKind.wrap_u64]; omega
theorem sl_bytes (v : Int) (n : Nat) (hn : n ≤ 8) (h0 : 0 ≤ v) (h1 : v ≤ 18446744073709551615) : Txt 19 #[.int .u64 v, .int .i64 n] n (be n v) := fun W => by
  refine (bytesC v n hn h0 h1 W).mono ?_
  rintro e w' ⟨x, c, rfl, ho, hb⟩
  rw [be_len] at ho ⊢
  exact ⟨x, c, rfl, ho.sees, hb⟩
theorem sl_full (g n : Nat) (vs : List Value) (P : List (List Int)) (V : List Int) (hV : fv P = V) (hn : n = P.length) (hn9 : n ≤ 100) (hs : P.flatten.length ≤ 44) (w : World) (hg : w.heap[g]? = some (.cells vs.toArray 43 (0, 0))) (hA : AllSees w vs P) :
    Calls Try.prog 18 #[.slice (some ⟨g, 0, none⟩) n n] w (SL w 44 V) := by
  subst hV
  refine (full g n vs P hn hn9 hs w hg hA).mono ?_
  rintro e w' ⟨x, c, rfl, ho, hb⟩
  rw [fv_len hs] at ho ⊢
  exact ⟨x, c, rfl, ho.sees, hb⟩
def WP (w : World) (e : Ending) (w' : World) : Prop := e = .returned (.bool true) ∧ Below w.heap.size w w'
set_option maxRecDepth 100000 in
set_option maxHeartbeats 16000000 in
theorem core (n vn vb ks kt m f pn pb g e10 : Int) (kz v L9 L10 L12 : List Int) (K18 : Array Value) (mb : Bool)
    (K15 : Hid (Ret 15 #[.int .u64 n] (.agg (bcells L9)))) (K16 : Hid (Ret 16 #[.agg (vcells vn vb)] (.tuple #[.agg (bcells L10), .int .i64 e10]))) (K17 : Hid (Ret 17 #[.agg (kcells ks kz kt)] (.agg (bcells L12)))) (K20 : Hid (Ret 20 #[.agg (bcells v)] (.tuple #[.int .u64 m, .int .i64 f]))) (K21 : Hid (Ret 21 #[.agg (bcells v)] (.tuple #[.agg (vcells pn pb), .int .i64 g]))) (K22 : Hid (Ret 22 #[.agg (bcells v)] (.agg K18))) (K17b : Hid (Ret 17 #[.agg K18] (.agg (bcells v)))) (T1 : Hid (Txt 19 #[.int .u64 n, .int .i64 8] 8 (be 8 n))) (T2 : Hid (Txt 19 #[.int .u64 vn, .int .i64 8] 8 (be 8 vn))) (T3 : Hid (mb = true → Txt 19 #[.int .u64 vb, .int .i64 4] 4 (be 4 vb))) (T4 : Hid (Txt 19 #[.int .u64 ks, .int .i64 4] 4 (be 4 ks))) (T5 : Hid (Txt 19 #[.int .u64 kt, .int .i64 8] 8 (be 8 kt))) (F9 : Hid (fv [be 8 n] = L9)) (F12 : Hid (fv [be 4 ks, kz, be 8 kt] = L12)) (HT : Hid (mb = true → e10 = 0 ∧ fv [be 8 vn, be 4 vb] = L10)) (HF : Hid (mb = false → e10 = 3 ∧ L10 = zs 44)) (HM : Hid (decide (1 ≤ vb ∧ vb ≤ 256) = mb)) (Lv : Hid (v.length = 44)) (Bv : Hid (Byt v)) (Lkz : Hid (kz.length = 32)) (Bkz : Hid (Byt kz)) (HC : Hid ((f = 0 ∧ iC v = true ∧ m = numI (pt v 0 8)) ∨ (f = 3 ∧ iC v = false ∧ m = 0))) (HV : Hid ((g = 0 ∧ iV v = true ∧ pn = numI (pt v 0 8) ∧ pb = numI (pt v 8 4) ∧ 0 ≤ pb ∧ pb ≤ 4294967295) ∨ (g = 3 ∧ iV v = false ∧ pn = 0 ∧ pb = 0))) (IK8 : Hid (Iz 37 (kcells ks kz kt))) (IK18 : Hid (Iz 37 K18)) (SK18 : Hid ((kcells 0 (zs 32) 0).size = K18.size)) (OK18 : Hid (On K18)) (Rks : Hid (0 ≤ ks ∧ ks ≤ 4294967295)) (NL9 : Hid (L9.length = 44)) (YL9 : Hid (Byt L9)) (NL10 : Hid (L10.length = 44)) (YL10 : Hid (Byt L10)) (NL12 : Hid (L12.length = 44)) (YL12 : Hid (Byt L12)) (w : World) :
    Calls Try.prog 4 #[.int .u64 n, .agg (vcells vn vb), .agg (kcells ks kz kt), .agg (bcells v)] w (WP w) := by
  have zz38 := z38
  have zz30 := z30
  have zz37 := z37
  have b38' := Lib.hid b38
  have b30' : Hid (∀ w : World, (Instr.build 30 #[]).run Try.prog w = .ok (.agg (vcells 0 0)) w) := fun w => by kernel_rfl
  have IL9 := Lib.hid (i38 NL9.out)
  have IL10 := Lib.hid (i38 NL10.out)
  have IL12 := Lib.hid (i38 NL12.out)
  have Iv := Lib.hid (i38 Lv.out)
  have SL9 := Lib.hid (bcells_sz (show (zs 44).length = L9.length by rw [NL9.out, zs_len]))
  have SL10 := Lib.hid (bcells_sz (show (zs 44).length = L10.length by rw [NL10.out, zs_len]))
  have SL12 := Lib.hid (bcells_sz (show (zs 44).length = L12.length by rw [NL12.out, zs_len]))
  have Sv := Lib.hid (bcells_sz (show (zs 44).length = v.length by rw [Lv.out, zs_len]))
  have OL9 := Lib.hid (one_cells L9)
  have OL10 := Lib.hid (one_cells L10)
  have OL12 := Lib.hid (one_cells L12)
  have Ov := Lib.hid (one_cells v)
  have IX7 : Hid ((Try.prog.info? 30).map (·.size) = some (vcells vn vb).size) := i30
  have IXp : Hid ((Try.prog.info? 30).map (·.size) = some (vcells pn pb).size) := i30
  have SXp : Hid ((vcells 0 0).size = (vcells pn pb).size) := rfl
  have OXp := Lib.hid (one_v pn pb)
  obtain ⟨W0, hW0⟩ : ∃ W0, W0 = ((w.alloc (.cells (vcells vn vb) 30)).alloc (.cells (kcells ks kz kt) 37)).alloc (.cells (bcells v) 38) := ⟨_, rfl⟩
  have BE : Hid (Below w.heap.size w W0) := by rw [hW0]; exact (((Below.refl _ _).alloc (Nat.le_refl _) _).alloc (by simp) _).alloc (by simp <;> omega) _
  have G7 : Hid (W0.heap[w.heap.size]? = some (.cells (vcells vn vb) 30 (0, 0))) := by
    show _ = _
    rw [hW0, Below.heap_alloc _ _ _ (by simp <;> omega), Below.heap_alloc _ _ _ (by simp)]; exact heap_alloc_new w _
  have G8 : Hid (W0.heap[w.heap.size + 1]? = some (.cells (kcells ks kz kt) 37 (0, 0))) := by
    show _ = _
    rw [hW0, Below.heap_alloc _ _ _ (by simp <;> omega)]; exact heap_alloc2_new w _ _
  have G11 : Hid (W0.heap[w.heap.size + 1 + 1]? = some (.cells (bcells v) 38 (0, 0))) := by
    show _ = _
    have := heap_alloc_new ((w.alloc (.cells (vcells vn vb) 30)).alloc (.cells (kcells ks kz kt) 37)) (.cells (bcells v) 38)
    rw [hW0]
    simpa using this
  have HW0 := Lib.hid hW0
  clear hW0
  have C7 : Hid (∀ W : World, W.heap[w.heap.size]? = some (.cells (vcells vn vb) 30 (0, 0)) → W.cell? ⟨w.heap.size, 0, none⟩ = some (.int .u64 vn) ∧ W.cell? ⟨w.heap.size, 1, none⟩ = some (.int .i64 vb)) := fun W h => ⟨vc0 h, vc1 h⟩
  have C8 : Hid (∀ W : World, W.heap[w.heap.size + 1]? = some (.cells (kcells ks kz kt) 37 (0, 0)) → W.cell? ⟨w.heap.size + 1, 0, none⟩ = some (.int .u32 ks) ∧ W.cell? ⟨w.heap.size + 1, 33, none⟩ = some (.int .u64 kt) ∧ Sees W (.slice (some ⟨w.heap.size + 1, 1, none⟩) 32 32) kz) := fun W h => ⟨kc0 h, kc33 Lkz.out h, ksum Bkz.out Lkz.out h⟩
  have SS : Hid (∀ (W : World) (q : Nat) (L : List Int), Byt L → L.length = 44 → W.heap[q]? = some (.cells (bcells L) 38 (0, 0)) → Sees W (.slice (some ⟨q, 0, none⟩) 44 44) L) := fun W q L h1 h2 h3 => sees_rowT W q 38 L h1 (by rw [h2]; decide) h3 44 h2.symm
  go_enter Try.func4, Try.ntmps4
  go_upto_region 1 with (fail)
  rw [← HW0.out]
  go_wp2_with fail
  refine (K15.out _).mono ?_
  rintro e u1 ⟨rfl, hb⟩
  have G7' := Lib.hid ((hb.block _ (blk_lt G7.out)).trans G7.out)
  have G8' := Lib.hid ((hb.block _ (blk_lt G8.out)).trans G8.out)
  have G11' := Lib.hid ((hb.block _ (blk_lt G11.out)).trans G11.out)
  have BE' := Lib.hid (BE.out.trans (hb.mono BE.out.size))
  clear hb BE G7 G8 G11
  have G7 := Lib.hid G7'.out
  have G8 := Lib.hid G8'.out
  have G11 := Lib.hid G11'.out
  have BE := Lib.hid BE'.out
  clear BE' G7' G8' G11'
  have GN := Lib.hid (heap_alloc_new u1 (.cells (bcells (zs 44)) 38))
  have RN := Lib.hid (alloc_setRowT u1 (bcells (zs 44)) (bcells L9) 38 _ rfl)
  have hal : Below u1.heap.size u1 (u1.alloc (.cells (bcells L9) 38)) := (Below.refl _ _).alloc (Nat.le_refl _) _
  have G9 := Lib.hid (heap_alloc_new u1 (.cells (bcells L9) 38))
  have n9G7 := blk_lt G7.out
  have n9G8 := blk_lt G8.out
  have n9G11 := blk_lt G11.out
  have G7' := Lib.hid ((hal.block _ (blk_lt G7.out)).trans G7.out)
  have G8' := Lib.hid ((hal.block _ (blk_lt G8.out)).trans G8.out)
  have G11' := Lib.hid ((hal.block _ (blk_lt G11.out)).trans G11.out)
  have BE' := Lib.hid (BE.out.trans (hal.mono BE.out.size))
  clear hal BE G7 G8 G11
  have G7 := Lib.hid G7'.out
  have G8 := Lib.hid G8'.out
  have G11 := Lib.hid G11'.out
  have BE := Lib.hid BE'.out
  clear BE' G7' G8' G11'
  go_upto_region 2 with (refine wpList_store_row rfl 38 (.tmp 9) (.tmp 21) rfl u1.heap.size (bcells L9) rfl rfl 38 (bcells (zs 44)) GN.out IL9.out SL9.out OL9.out ?_)
  rw [RN.out]
  try simp only [Act.put]
  generalize u1.alloc (.cells (bcells L9) 38) = u2 at *
  generalize u1.heap.size = q9 at *
  clear GN RN
  go_wp2_with (refine wpList_load_row rfl 30 (.tmp 5) rfl (w.heap.size) rfl 30 (vcells vn vb) (0, 0) _ G7.out Try.underlying30 rfl IX7.out ?_)
  refine (K16.out _).mono ?_
  rintro e u3 ⟨rfl, hb⟩
  have G7' := Lib.hid ((hb.block _ (blk_lt G7.out)).trans G7.out)
  have G8' := Lib.hid ((hb.block _ (blk_lt G8.out)).trans G8.out)
  have G11' := Lib.hid ((hb.block _ (blk_lt G11.out)).trans G11.out)
  have G9' := Lib.hid ((hb.block _ (blk_lt G9.out)).trans G9.out)
  have BE' := Lib.hid (BE.out.trans (hb.mono BE.out.size))
  clear hb BE G7 G8 G11 G9
  have G7 := Lib.hid G7'.out
  have G8 := Lib.hid G8'.out
  have G11 := Lib.hid G11'.out
  have G9 := Lib.hid G9'.out
  have BE := Lib.hid BE'.out
  clear BE' G7' G8' G11' G9'
  have GN := Lib.hid (heap_alloc_new u3 (.cells (bcells (zs 44)) 38))
  have RN := Lib.hid (alloc_setRowT u3 (bcells (zs 44)) (bcells L10) 38 _ rfl)
  have hal : Below u3.heap.size u3 (u3.alloc (.cells (bcells L10) 38)) := (Below.refl _ _).alloc (Nat.le_refl _) _
  have G10 := Lib.hid (heap_alloc_new u3 (.cells (bcells L10) 38))
  have n10G7 := blk_lt G7.out
  have n10G8 := blk_lt G8.out
  have n10G11 := blk_lt G11.out
  have n10G9 := blk_lt G9.out
  have G7' := Lib.hid ((hal.block _ (blk_lt G7.out)).trans G7.out)
  have G8' := Lib.hid ((hal.block _ (blk_lt G8.out)).trans G8.out)
  have G11' := Lib.hid ((hal.block _ (blk_lt G11.out)).trans G11.out)
  have G9' := Lib.hid ((hal.block _ (blk_lt G9.out)).trans G9.out)
  have BE' := Lib.hid (BE.out.trans (hal.mono BE.out.size))
  clear hal BE G7 G8 G11 G9
  have G7 := Lib.hid G7'.out
  have G8 := Lib.hid G8'.out
  have G11 := Lib.hid G11'.out
  have G9 := Lib.hid G9'.out
  have BE := Lib.hid BE'.out
  clear BE' G7' G8' G11' G9'
  go_upto_region 3 with (refine wpList_store_row rfl 38 (.tmp 10) (.tmp 25) rfl u3.heap.size (bcells L10) rfl rfl 38 (bcells (zs 44)) GN.out IL10.out SL10.out OL10.out ?_)
  rw [RN.out]
  try simp only [Act.put]
  generalize u3.alloc (.cells (bcells L10) 38) = u4 at *
  generalize u3.heap.size = q10 at *
  clear GN RN
  go_wp2_with (refine wpList_load_row rfl 37 (.tmp 6) rfl (w.heap.size + 1) rfl 37 (kcells ks kz kt) (0, 0) _ G8.out Try.underlying37 rfl IK8.out ?_)
  refine (K17.out _).mono ?_
  rintro e u5 ⟨rfl, hb⟩
  have G7' := Lib.hid ((hb.block _ (blk_lt G7.out)).trans G7.out)
  have G8' := Lib.hid ((hb.block _ (blk_lt G8.out)).trans G8.out)
  have G11' := Lib.hid ((hb.block _ (blk_lt G11.out)).trans G11.out)
  have G9' := Lib.hid ((hb.block _ (blk_lt G9.out)).trans G9.out)
  have G10' := Lib.hid ((hb.block _ (blk_lt G10.out)).trans G10.out)
  have BE' := Lib.hid (BE.out.trans (hb.mono BE.out.size))
  clear hb BE G7 G8 G11 G9 G10
  have G7 := Lib.hid G7'.out
  have G8 := Lib.hid G8'.out
  have G11 := Lib.hid G11'.out
  have G9 := Lib.hid G9'.out
  have G10 := Lib.hid G10'.out
  have BE := Lib.hid BE'.out
  clear BE' G7' G8' G11' G9' G10'
  have GN := Lib.hid (heap_alloc_new u5 (.cells (bcells (zs 44)) 38))
  have RN := Lib.hid (alloc_setRowT u5 (bcells (zs 44)) (bcells L12) 38 _ rfl)
  have hal : Below u5.heap.size u5 (u5.alloc (.cells (bcells L12) 38)) := (Below.refl _ _).alloc (Nat.le_refl _) _
  have G12 := Lib.hid (heap_alloc_new u5 (.cells (bcells L12) 38))
  have n12G7 := blk_lt G7.out
  have n12G8 := blk_lt G8.out
  have n12G11 := blk_lt G11.out
  have n12G9 := blk_lt G9.out
  have n12G10 := blk_lt G10.out
  have G7' := Lib.hid ((hal.block _ (blk_lt G7.out)).trans G7.out)
  have G8' := Lib.hid ((hal.block _ (blk_lt G8.out)).trans G8.out)
  have G11' := Lib.hid ((hal.block _ (blk_lt G11.out)).trans G11.out)
  have G9' := Lib.hid ((hal.block _ (blk_lt G9.out)).trans G9.out)
  have G10' := Lib.hid ((hal.block _ (blk_lt G10.out)).trans G10.out)
  have BE' := Lib.hid (BE.out.trans (hal.mono BE.out.size))
  clear hal BE G7 G8 G11 G9 G10
  have G7 := Lib.hid G7'.out
  have G8 := Lib.hid G8'.out
  have G11 := Lib.hid G11'.out
  have G9 := Lib.hid G9'.out
  have G10 := Lib.hid G10'.out
  have BE := Lib.hid BE'.out
  clear BE' G7' G8' G11' G9' G10'
  go_upto_region 4 with (refine wpList_store_row rfl 38 (.tmp 12) (.tmp 28) rfl u5.heap.size (bcells L12) rfl rfl 38 (bcells (zs 44)) GN.out IL12.out SL12.out OL12.out ?_)
  rw [RN.out]
  try simp only [Act.put]
  generalize u5.alloc (.cells (bcells L12) 38) = u6 at *
  generalize u5.heap.size = q12 at *
  clear GN RN
  go_cut [13] (fun s13 wx => s13 = .bool mb ∧ Below w.heap.size w wx ∧ Row wx (w.heap.size) 30 (vcells vn vb) ∧ Row wx (w.heap.size + 1) 37 (kcells ks kz kt) ∧ Row wx (w.heap.size + 1 + 1) 38 (bcells v) ∧ Row wx (q9) 38 (bcells L9) ∧ Row wx (q10) 38 (bcells L10) ∧ Row wx (q12) 38 (bcells L12))
  case first =>
    as_aux_lemma =>
      have d7 := C7.out _ G7.out
      have d71 := d7.2
      clear d7
      by_cases a : 1 ≤ vb
      · by_cases b : vb ≤ 256
        · have e : Hid (true = mb) := by show _ = _; rw [← HM.out]; exact (decide_eq_true ⟨a, b⟩).symm
          go_wp2_with fail
          go_meet
          exact ⟨by rw [e.out], BE.out, G7.out, G8.out, G11.out, G9.out, G10.out, G12.out⟩
        · have e : Hid (false = mb) := by show _ = _; rw [← HM.out]; exact (decide_eq_false (fun h => b h.2)).symm
          go_wp2_with fail
          go_meet
          exact ⟨by rw [e.out], BE.out, G7.out, G8.out, G11.out, G9.out, G10.out, G12.out⟩
      · have e : Hid (false = mb) := by show _ = _; rw [← HM.out]; exact (decide_eq_false (fun h => a h.1)).symm
        go_wp2_with fail
        go_meet
        exact ⟨by rw [e.out], BE.out, G7.out, G8.out, G11.out, G9.out, G10.out, G12.out⟩
  case rest =>
    as_aux_lemma =>
      clear BE G7 G8 G11 G9 G10 G12
      obtain ⟨rfl, hbe, rG7, rG8, rG11, rG9, rG10, rG12⟩ := hcut
      have BE := Lib.hid hbe
      have G7 : Hid (_ = some (Obj.cells (vcells vn vb) 30 (0, 0))) := rG7
      have G8 : Hid (_ = some (Obj.cells (kcells ks kz kt) 37 (0, 0))) := rG8
      have G11 : Hid (_ = some (Obj.cells (bcells v) 38 (0, 0))) := rG11
      have G9 : Hid (_ = some (Obj.cells (bcells L9) 38 (0, 0))) := rG9
      have G10 : Hid (_ = some (Obj.cells (bcells L10) 38 (0, 0))) := rG10
      have G12 : Hid (_ = some (Obj.cells (bcells L12) 38 (0, 0))) := rG12
      clear hbe rG7 rG8 rG11 rG9 rG10 rG12
      go_upto_region 5 with (fail)
      go_cut [63] (fun s63 wx => s63 = .bool false ∧ Below w.heap.size w wx ∧ Row wx (w.heap.size) 30 (vcells vn vb) ∧ Row wx (w.heap.size + 1) 37 (kcells ks kz kt) ∧ Row wx (w.heap.size + 1 + 1) 38 (bcells v) ∧ Row wx (q9) 38 (bcells L9) ∧ Row wx (q10) 38 (bcells L10) ∧ Row wx (q12) 38 (bcells L12))
      case first =>
        as_aux_lemma =>
          cases mb with
          | true =>
            obtain ⟨rfl, e2⟩ := HT.out rfl
            clear e2 HT HF T3
            refine wp_region_held_drew (S := fun W => Below w.heap.size w W ∧ W.heap[(q9)]? = some (.cells (bcells L9) 38 (0, 0)) ∧ W.heap[(q10)]? = some (.cells (bcells L10) 38 (0, 0))) (by kernel_rfl) (⟨BE.out.drew, G9.out, G10.out⟩) (fun hS => ?_)
            have hb0 : Below wc.heap.size wc wc.drew := (Below.refl _ _).drew
            have qG7 := (hb0.block _ (blk_lt G7.out)).trans G7.out
            have qG8 := (hb0.block _ (blk_lt G8.out)).trans G8.out
            have qG11 := (hb0.block _ (blk_lt G11.out)).trans G11.out
            have qG9 := (hb0.block _ (blk_lt G9.out)).trans G9.out
            have qG10 := (hb0.block _ (blk_lt G10.out)).trans G10.out
            have qG12 := (hb0.block _ (blk_lt G12.out)).trans G12.out
            clear hb0 G7 G8 G11 G9 G10 G12
            generalize wc.drew = Was at hS qG7 qG8 qG11 qG9 qG10 qG12 ⊢
            have G7 := Lib.hid qG7
            have G8 := Lib.hid qG8
            have G11 := Lib.hid qG11
            have G9 := Lib.hid qG9
            have G10 := Lib.hid qG10
            have G12 := Lib.hid qG12
            clear qG7 qG8 qG11 qG9 qG10 qG12
            refine' wpAnyH_take (i := 0) ?h1x0a ?hsx0a ?hfx0a ?hrx0a ?hQx0a (Or.inl ⟨?hwx0a, ?hyx0a⟩) hS ?restx0a
            case h1x0a => (simp only [List.getElem?_toArray, List.getElem?_cons_zero]; rfl)
            case hsx0a => kernel_rfl
            case hfx0a => kernel_rfl
            case hrx0a => kernel_rfl
            case hQx0a => exact fun _ _ _ h => h
            case hwx0a => rfl
            case hyx0a =>
              intro W hW
              go_simp
              try with_reducible rfl
            simp only [Act.put, List.setIfInBounds_toArray, List.set_cons_succ, List.set_cons_zero]
            refine' wpAnyH_take (i := 2) ?h1x2a ?hsx2a ?hfx2a ?hrx2a ?hQx2a (Or.inl ⟨?hwx2a, ?hyx2a⟩) hS ?restx2a
            case h1x2a => (simp only [List.getElem?_toArray, List.getElem?_cons_succ, List.getElem?_cons_zero]; rfl)
            case hsx2a => kernel_rfl
            case hfx2a => kernel_rfl
            case hrx2a => kernel_rfl
            case hQx2a => exact fun _ _ _ h => h
            case hwx2a => rfl
            case hyx2a =>
              intro W hW
              go_simp
              try with_reducible rfl
            simp only [Act.put, List.setIfInBounds_toArray, List.set_cons_succ, List.set_cons_zero]
            refine' wpAnyH_take (i := 1) ?h1x1a ?hsx1a ?hfx1a ?hrx1a ?hQx1a (Or.inl ⟨?hwx1a, ?hyx1a⟩) hS ?restx1a
            case h1x1a => (simp only [List.getElem?_toArray, List.getElem?_cons_succ, List.getElem?_cons_zero]; rfl)
            case hsx1a => kernel_rfl
            case hfx1a => kernel_rfl
            case hrx1a => kernel_rfl
            case hQx1a => exact fun _ _ _ h => h
            case hwx1a => rfl
            case hyx1a =>
              intro W hW
              have cv := (SS.out W _ _ YL9.out NL9.out hW.2.1).str
              go_simp
              try with_reducible rfl
            simp only [Act.put, List.setIfInBounds_toArray, List.set_cons_succ, List.set_cons_zero]
            refine wpAnyH_ready (rs := [3]) (by kernel_rfl) (by simp) ?_
            refine' (AllReadyH.cons ?hoc3a (fun K hK => ?stc3a) AllReadyH.nil)
            case hoc3a => (simp only [List.getElem?_toArray, List.getElem?_cons_succ, List.getElem?_cons_zero]; rfl)
            go_simp
            refine (T1.out Was).mono ?_
            rintro e Wax3 ⟨xa, ca, rfl, hs, hb⟩
            have G7 := Lib.hid ((hb.block _ (blk_lt G7.out)).trans G7.out)
            have G8 := Lib.hid ((hb.block _ (blk_lt G8.out)).trans G8.out)
            have G11 := Lib.hid ((hb.block _ (blk_lt G11.out)).trans G11.out)
            have G9 := Lib.hid ((hb.block _ (blk_lt G9.out)).trans G9.out)
            have G10 := Lib.hid ((hb.block _ (blk_lt G10.out)).trans G10.out)
            have G12 := Lib.hid ((hb.block _ (blk_lt G12.out)).trans G12.out)
            have Sa := Lib.hid hs
            clear hs
            go_wp2_with fail
            refine hK.out _ _ (⟨hS.1.trans (hb.mono hS.1.size), (hb.block _ (blk_lt hS.2.1)).trans hS.2.1, (hb.block _ (blk_lt hS.2.2)).trans hS.2.2⟩) (fun hHeld => ?_)
            clear hK K
            try simp only [Act.put, List.setIfInBounds_toArray, List.set_cons_succ, List.set_cons_zero]
            clear hS
            have hS := hHeld
            clear hHeld
            clear hb
            refine wpAnyH_ready (rs := [4]) (by kernel_rfl) (by simp) ?_
            refine' (AllReadyH.cons ?hoc4ax3 (fun K hK => ?stc4ax3) AllReadyH.nil)
            case hoc4ax3 => (simp only [List.getElem?_toArray, List.getElem?_cons_succ, List.getElem?_cons_zero]; rfl)
            go_simp
            have hb := (Below.refl Wax3.heap.size Wax3).alloc (Nat.le_refl _) (.cells #[.slice xa 8 ca] 43)
            refine hK.out _ _ (⟨hS.1.trans (hb.mono hS.1.size), (hb.block _ (blk_lt hS.2.1)).trans hS.2.1, (hb.block _ (blk_lt hS.2.2)).trans hS.2.2⟩) (fun hHeld => ?_)
            clear hK K
            try simp only [Act.put, List.setIfInBounds_toArray, List.set_cons_succ, List.set_cons_zero]
            have qGP := heap_alloc_new Wax3 (.cells #[.slice xa 8 ca] 43)
            have hgp := hS.1.size
            have qG7 := (hb.block _ (blk_lt G7.out)).trans G7.out
            have qG8 := (hb.block _ (blk_lt G8.out)).trans G8.out
            have qG11 := (hb.block _ (blk_lt G11.out)).trans G11.out
            have qG9 := (hb.block _ (blk_lt G9.out)).trans G9.out
            have qG10 := (hb.block _ (blk_lt G10.out)).trans G10.out
            have qG12 := (hb.block _ (blk_lt G12.out)).trans G12.out
            have qSa := Sa.out.below hb
            clear hS
            have hS := hHeld
            clear hHeld
            clear hb
            clear G7 G8 G11 G9 G10 G12 Sa
            generalize Wax3.alloc (.cells #[.slice xa 8 ca] 43) = Wax3x4 at *
            generalize Wax3.heap.size = gp at *
            have G7 := Lib.hid qG7
            have G8 := Lib.hid qG8
            have G11 := Lib.hid qG11
            have G9 := Lib.hid qG9
            have G10 := Lib.hid qG10
            have G12 := Lib.hid qG12
            have Sa := Lib.hid qSa
            have GP := Lib.hid qGP
            clear qG7 qG8 qG11 qG9 qG10 qG12 qSa qGP
            refine wpAnyH_ready (rs := [5]) (by kernel_rfl) (by simp) ?_
            refine' (AllReadyH.cons ?hoc5ax3x4 (fun K hK => ?stc5ax3x4) AllReadyH.nil)
            case hoc5ax3x4 => (simp only [List.getElem?_toArray, List.getElem?_cons_succ, List.getElem?_cons_zero]; rfl)
            go_simp
            refine (sl_full _ 1 [_] [be 8 n] L9 F9.out rfl (by decide) (by simp [be_len]) Wax3x4 GP.out ⟨Sa.out, be_ne 7 n, trivial⟩).mono ?_
            rintro e Wax3x4x5 ⟨xb, cb, rfl, hs, hb⟩
            have G7 := Lib.hid ((hb.block _ (blk_lt G7.out)).trans G7.out)
            have G8 := Lib.hid ((hb.block _ (blk_lt G8.out)).trans G8.out)
            have G11 := Lib.hid ((hb.block _ (blk_lt G11.out)).trans G11.out)
            have G9 := Lib.hid ((hb.block _ (blk_lt G9.out)).trans G9.out)
            have G10 := Lib.hid ((hb.block _ (blk_lt G10.out)).trans G10.out)
            have G12 := Lib.hid ((hb.block _ (blk_lt G12.out)).trans G12.out)
            have Sa := Lib.hid (Sa.out.below hb)
            have GP := Lib.hid ((hb.block _ (blk_lt GP.out)).trans GP.out)
            have Sb := Lib.hid hs
            clear hs
            go_wp2_with fail
            refine hK.out _ _ (⟨hS.1.trans (hb.mono hS.1.size), (hb.block _ (blk_lt hS.2.1)).trans hS.2.1, (hb.block _ (blk_lt hS.2.2)).trans hS.2.2⟩) (fun hHeld => ?_)
            clear hK K
            try simp only [Act.put, List.setIfInBounds_toArray, List.set_cons_succ, List.set_cons_zero]
            clear hS
            have hS := hHeld
            clear hHeld
            clear hb
            refine wpAnyH_ready (rs := [6]) (by kernel_rfl) (by simp) ?_
            refine' (AllReadyH.cons ?hoc6ax3x4x5 (fun K hK => ?stc6ax3x4x5) AllReadyH.nil)
            case hoc6ax3x4x5 => (simp only [List.getElem?_toArray, List.getElem?_cons_succ, List.getElem?_cons_zero]; rfl)
            have cv := Sb.out.str
            go_simp
            refine hK.out _ _ hS (fun hHeld => ?_)
            clear hK K
            try simp only [Act.put, List.setIfInBounds_toArray, List.set_cons_succ, List.set_cons_zero]
            clear hS
            have hS := hHeld
            clear hHeld
            refine' wpAnyH_take (i := 7) ?h1x7ax3x4x5x6 ?hsx7ax3x4x5x6 ?hfx7ax3x4x5x6 ?hrx7ax3x4x5x6 ?hQx7ax3x4x5x6 (Or.inl ⟨?hwx7ax3x4x5x6, ?hyx7ax3x4x5x6⟩) hS ?restx7ax3x4x5x6
            case h1x7ax3x4x5x6 => (simp only [List.getElem?_toArray, List.getElem?_cons_succ, List.getElem?_cons_zero]; rfl)
            case hsx7ax3x4x5x6 => kernel_rfl
            case hfx7ax3x4x5x6 => kernel_rfl
            case hrx7ax3x4x5x6 => kernel_rfl
            case hQx7ax3x4x5x6 => exact fun _ _ _ h => h
            case hwx7ax3x4x5x6 => rfl
            case hyx7ax3x4x5x6 =>
              intro W hW
              go_simp
              try with_reducible rfl
            simp only [Act.put, List.setIfInBounds_toArray, List.set_cons_succ, List.set_cons_zero]
            refine' wpAnyH_take (i := 8) ?h1x8ax3x4x5x6 ?hsx8ax3x4x5x6 ?hfx8ax3x4x5x6 ?hrx8ax3x4x5x6 ?hQx8ax3x4x5x6 (Or.inl ⟨?hwx8ax3x4x5x6, ?hyx8ax3x4x5x6⟩) hS ?restx8ax3x4x5x6
            case h1x8ax3x4x5x6 => (simp only [List.getElem?_toArray, List.getElem?_cons_succ, List.getElem?_cons_zero]; rfl)
            case hsx8ax3x4x5x6 => kernel_rfl
            case hfx8ax3x4x5x6 => kernel_rfl
            case hrx8ax3x4x5x6 => kernel_rfl
            case hQx8ax3x4x5x6 => exact fun _ _ _ h => h
            case hwx8ax3x4x5x6 => rfl
            case hyx8ax3x4x5x6 =>
              intro W hW
              go_simp
              try with_reducible rfl
            simp only [Act.put, List.setIfInBounds_toArray, List.set_cons_succ, List.set_cons_zero]
            refine' wpAnyH_take (i := 9) ?h1x9ax3x4x5x6 ?hsx9ax3x4x5x6 ?hfx9ax3x4x5x6 ?hrx9ax3x4x5x6 ?hQx9ax3x4x5x6 (Or.inl ⟨?hwx9ax3x4x5x6, ?hyx9ax3x4x5x6⟩) hS ?restx9ax3x4x5x6
            case h1x9ax3x4x5x6 => (simp only [List.getElem?_toArray, List.getElem?_cons_succ, List.getElem?_cons_zero]; rfl)
            case hsx9ax3x4x5x6 => kernel_rfl
            case hfx9ax3x4x5x6 => kernel_rfl
            case hrx9ax3x4x5x6 => kernel_rfl
            case hQx9ax3x4x5x6 => exact fun _ _ _ h => h
            case hwx9ax3x4x5x6 => rfl
            case hyx9ax3x4x5x6 =>
              intro W hW
              go_simp
              try with_reducible rfl
            simp only [Act.put, List.setIfInBounds_toArray, List.set_cons_succ, List.set_cons_zero]
            refine' wpAnyH_take (i := 11) ?h1x11ax3x4x5x6 ?hsx11ax3x4x5x6 ?hfx11ax3x4x5x6 ?hrx11ax3x4x5x6 ?hQx11ax3x4x5x6 (Or.inl ⟨?hwx11ax3x4x5x6, ?hyx11ax3x4x5x6⟩) hS ?restx11ax3x4x5x6
            case h1x11ax3x4x5x6 => (simp only [List.getElem?_toArray, List.getElem?_cons_succ, List.getElem?_cons_zero]; rfl)
            case hsx11ax3x4x5x6 => kernel_rfl
            case hfx11ax3x4x5x6 => kernel_rfl
            case hrx11ax3x4x5x6 => kernel_rfl
            case hQx11ax3x4x5x6 => exact fun _ _ _ h => h
            case hwx11ax3x4x5x6 => rfl
            case hyx11ax3x4x5x6 =>
              intro W hW
              go_simp
              try with_reducible rfl
            simp only [Act.put, List.setIfInBounds_toArray, List.set_cons_succ, List.set_cons_zero]
            refine' wpAnyH_take (i := 10) ?h1x10ax3x4x5x6 ?hsx10ax3x4x5x6 ?hfx10ax3x4x5x6 ?hrx10ax3x4x5x6 ?hQx10ax3x4x5x6 (Or.inl ⟨?hwx10ax3x4x5x6, ?hyx10ax3x4x5x6⟩) hS ?restx10ax3x4x5x6
            case h1x10ax3x4x5x6 => (simp only [List.getElem?_toArray, List.getElem?_cons_succ, List.getElem?_cons_zero]; rfl)
            case hsx10ax3x4x5x6 => kernel_rfl
            case hfx10ax3x4x5x6 => kernel_rfl
            case hrx10ax3x4x5x6 => kernel_rfl
            case hQx10ax3x4x5x6 => exact fun _ _ _ h => h
            case hwx10ax3x4x5x6 => rfl
            case hyx10ax3x4x5x6 =>
              intro W hW
              go_simp
              try with_reducible rfl
            simp only [Act.put, List.setIfInBounds_toArray, List.set_cons_succ, List.set_cons_zero]
            refine' wpAnyH_take (i := 12) ?h1x12ax3x4x5x6 ?hsx12ax3x4x5x6 ?hfx12ax3x4x5x6 ?hrx12ax3x4x5x6 ?hQx12ax3x4x5x6 (Or.inl ⟨?hwx12ax3x4x5x6, ?hyx12ax3x4x5x6⟩) hS ?restx12ax3x4x5x6
            case h1x12ax3x4x5x6 => (simp only [List.getElem?_toArray, List.getElem?_cons_succ, List.getElem?_cons_zero]; rfl)
            case hsx12ax3x4x5x6 => kernel_rfl
            case hfx12ax3x4x5x6 => kernel_rfl
            case hrx12ax3x4x5x6 => kernel_rfl
            case hQx12ax3x4x5x6 => exact fun _ _ _ h => h
            case hwx12ax3x4x5x6 => rfl
            case hyx12ax3x4x5x6 =>
              intro W hW
              go_simp
              try with_reducible rfl
            simp only [Act.put, List.setIfInBounds_toArray, List.set_cons_succ, List.set_cons_zero]
            refine' wpAnyH_take (i := 13) ?h1x13ax3x4x5x6 ?hsx13ax3x4x5x6 ?hfx13ax3x4x5x6 ?hrx13ax3x4x5x6 ?hQx13ax3x4x5x6 (Or.inl ⟨?hwx13ax3x4x5x6, ?hyx13ax3x4x5x6⟩) hS ?restx13ax3x4x5x6
            case h1x13ax3x4x5x6 => (simp only [List.getElem?_toArray, List.getElem?_cons_succ, List.getElem?_cons_zero]; rfl)
            case hsx13ax3x4x5x6 => kernel_rfl
            case hfx13ax3x4x5x6 => kernel_rfl
            case hrx13ax3x4x5x6 => kernel_rfl
            case hQx13ax3x4x5x6 => exact fun _ _ _ h => h
            case hwx13ax3x4x5x6 => rfl
            case hyx13ax3x4x5x6 =>
              intro W hW
              go_simp
              try with_reducible rfl
            simp only [Act.put, List.setIfInBounds_toArray, List.set_cons_succ, List.set_cons_zero]
            refine' wpAnyH_take (i := 14) ?h1x14ax3x4x5x6 ?hsx14ax3x4x5x6 ?hfx14ax3x4x5x6 ?hrx14ax3x4x5x6 ?hQx14ax3x4x5x6 (Or.inl ⟨?hwx14ax3x4x5x6, ?hyx14ax3x4x5x6⟩) hS ?restx14ax3x4x5x6
            case h1x14ax3x4x5x6 => (simp only [List.getElem?_toArray, List.getElem?_cons_succ, List.getElem?_cons_zero]; rfl)
            case hsx14ax3x4x5x6 => kernel_rfl
            case hfx14ax3x4x5x6 => kernel_rfl
            case hrx14ax3x4x5x6 => kernel_rfl
            case hQx14ax3x4x5x6 => exact fun _ _ _ h => h
            case hwx14ax3x4x5x6 => rfl
            case hyx14ax3x4x5x6 =>
              intro W hW
              go_simp
              try with_reducible rfl
            simp only [Act.put, List.setIfInBounds_toArray, List.set_cons_succ, List.set_cons_zero]
            refine' wpAnyH_take (i := 15) ?h1x15ax3x4x5x6 ?hsx15ax3x4x5x6 ?hfx15ax3x4x5x6 ?hrx15ax3x4x5x6 ?hQx15ax3x4x5x6 (Or.inl ⟨?hwx15ax3x4x5x6, ?hyx15ax3x4x5x6⟩) hS ?restx15ax3x4x5x6
            case h1x15ax3x4x5x6 => (simp only [List.getElem?_toArray, List.getElem?_cons_succ, List.getElem?_cons_zero]; rfl)
            case hsx15ax3x4x5x6 => kernel_rfl
            case hfx15ax3x4x5x6 => kernel_rfl
            case hrx15ax3x4x5x6 => kernel_rfl
            case hQx15ax3x4x5x6 => exact fun _ _ _ h => h
            case hwx15ax3x4x5x6 => rfl
            case hyx15ax3x4x5x6 =>
              intro W hW
              go_simp
              try with_reducible rfl
            simp only [Act.put, List.setIfInBounds_toArray, List.set_cons_succ, List.set_cons_zero]
            refine' wpAnyH_take (i := 16) ?h1x16ax3x4x5x6 ?hsx16ax3x4x5x6 ?hfx16ax3x4x5x6 ?hrx16ax3x4x5x6 ?hQx16ax3x4x5x6 (Or.inl ⟨?hwx16ax3x4x5x6, ?hyx16ax3x4x5x6⟩) hS ?restx16ax3x4x5x6
            case h1x16ax3x4x5x6 => (simp only [List.getElem?_toArray, List.getElem?_cons_succ, List.getElem?_cons_zero]; rfl)
            case hsx16ax3x4x5x6 => kernel_rfl
            case hfx16ax3x4x5x6 => kernel_rfl
            case hrx16ax3x4x5x6 => kernel_rfl
            case hQx16ax3x4x5x6 => exact fun _ _ _ h => h
            case hwx16ax3x4x5x6 => rfl
            case hyx16ax3x4x5x6 =>
              intro W hW
              go_simp
              try with_reducible rfl
            simp only [Act.put, List.setIfInBounds_toArray, List.set_cons_succ, List.set_cons_zero]
            refine' wpAnyH_take (i := 17) ?h1x17ax3x4x5x6 ?hsx17ax3x4x5x6 ?hfx17ax3x4x5x6 ?hrx17ax3x4x5x6 ?hQx17ax3x4x5x6 (Or.inl ⟨?hwx17ax3x4x5x6, ?hyx17ax3x4x5x6⟩) hS ?restx17ax3x4x5x6
            case h1x17ax3x4x5x6 => (simp only [List.getElem?_toArray, List.getElem?_cons_succ, List.getElem?_cons_zero]; rfl)
            case hsx17ax3x4x5x6 => kernel_rfl
            case hfx17ax3x4x5x6 => kernel_rfl
            case hrx17ax3x4x5x6 => kernel_rfl
            case hQx17ax3x4x5x6 => exact fun _ _ _ h => h
            case hwx17ax3x4x5x6 => rfl
            case hyx17ax3x4x5x6 =>
              intro W hW
              go_simp
              try with_reducible rfl
            simp only [Act.put, List.setIfInBounds_toArray, List.set_cons_succ, List.set_cons_zero]
            refine' wpAnyH_take (i := 18) ?h1x18ax3x4x5x6 ?hsx18ax3x4x5x6 ?hfx18ax3x4x5x6 ?hrx18ax3x4x5x6 ?hQx18ax3x4x5x6 (Or.inr ⟨?hwx18ax3x4x5x6, rfl⟩) hS ?restx18ax3x4x5x6
            case h1x18ax3x4x5x6 => (simp only [List.getElem?_toArray, List.getElem?_cons_succ, List.getElem?_cons_zero]; rfl)
            case hsx18ax3x4x5x6 => kernel_rfl
            case hfx18ax3x4x5x6 => kernel_rfl
            case hrx18ax3x4x5x6 => kernel_rfl
            case hQx18ax3x4x5x6 => exact fun _ _ _ h => h
            case hwx18ax3x4x5x6 => rfl
            simp only [Act.put, List.setIfInBounds_toArray, List.set_cons_succ, List.set_cons_zero]
            refine' wpAnyH_take (i := 19) ?h1x19ax3x4x5x6 ?hsx19ax3x4x5x6 ?hfx19ax3x4x5x6 ?hrx19ax3x4x5x6 ?hQx19ax3x4x5x6 (Or.inr ⟨?hwx19ax3x4x5x6, rfl⟩) hS ?restx19ax3x4x5x6
            case h1x19ax3x4x5x6 => (simp only [List.getElem?_toArray, List.getElem?_cons_succ, List.getElem?_cons_zero]; rfl)
            case hsx19ax3x4x5x6 => kernel_rfl
            case hfx19ax3x4x5x6 => kernel_rfl
            case hrx19ax3x4x5x6 => kernel_rfl
            case hQx19ax3x4x5x6 => exact fun _ _ _ h => h
            case hwx19ax3x4x5x6 => rfl
            simp only [Act.put, List.setIfInBounds_toArray, List.set_cons_succ, List.set_cons_zero]
            refine' wpAnyH_take (i := 20) ?h1x20ax3x4x5x6 ?hsx20ax3x4x5x6 ?hfx20ax3x4x5x6 ?hrx20ax3x4x5x6 ?hQx20ax3x4x5x6 (Or.inr ⟨?hwx20ax3x4x5x6, rfl⟩) hS ?restx20ax3x4x5x6
            case h1x20ax3x4x5x6 => (simp only [List.getElem?_toArray, List.getElem?_cons_succ, List.getElem?_cons_zero]; rfl)
            case hsx20ax3x4x5x6 => kernel_rfl
            case hfx20ax3x4x5x6 => kernel_rfl
            case hrx20ax3x4x5x6 => kernel_rfl
            case hQx20ax3x4x5x6 => exact fun _ _ _ h => h
            case hwx20ax3x4x5x6 => rfl
            simp only [Act.put, List.setIfInBounds_toArray, List.set_cons_succ, List.set_cons_zero]
            refine' wpAnyH_take (i := 21) ?h1x21ax3x4x5x6 ?hsx21ax3x4x5x6 ?hfx21ax3x4x5x6 ?hrx21ax3x4x5x6 ?hQx21ax3x4x5x6 (Or.inr ⟨?hwx21ax3x4x5x6, rfl⟩) hS ?restx21ax3x4x5x6
            case h1x21ax3x4x5x6 => (simp only [List.getElem?_toArray, List.getElem?_cons_succ, List.getElem?_cons_zero]; rfl)
            case hsx21ax3x4x5x6 => kernel_rfl
            case hfx21ax3x4x5x6 => kernel_rfl
            case hrx21ax3x4x5x6 => kernel_rfl
            case hQx21ax3x4x5x6 => exact fun _ _ _ h => h
            case hwx21ax3x4x5x6 => rfl
            simp only [Act.put, List.setIfInBounds_toArray, List.set_cons_succ, List.set_cons_zero]
            refine' wpAnyH_take (i := 22) ?h1x22ax3x4x5x6 ?hsx22ax3x4x5x6 ?hfx22ax3x4x5x6 ?hrx22ax3x4x5x6 ?hQx22ax3x4x5x6 (Or.inr ⟨?hwx22ax3x4x5x6, rfl⟩) hS ?restx22ax3x4x5x6
            case h1x22ax3x4x5x6 => (simp only [List.getElem?_toArray, List.getElem?_cons_succ, List.getElem?_cons_zero]; rfl)
            case hsx22ax3x4x5x6 => kernel_rfl
            case hfx22ax3x4x5x6 => kernel_rfl
            case hrx22ax3x4x5x6 => kernel_rfl
            case hQx22ax3x4x5x6 => exact fun _ _ _ h => h
            case hwx22ax3x4x5x6 => rfl
            simp only [Act.put, List.setIfInBounds_toArray, List.set_cons_succ, List.set_cons_zero]
            refine' wpAnyH_take (i := 23) ?h1x23ax3x4x5x6 ?hsx23ax3x4x5x6 ?hfx23ax3x4x5x6 ?hrx23ax3x4x5x6 ?hQx23ax3x4x5x6 (Or.inr ⟨?hwx23ax3x4x5x6, rfl⟩) hS ?restx23ax3x4x5x6
            case h1x23ax3x4x5x6 => (simp only [List.getElem?_toArray, List.getElem?_cons_succ, List.getElem?_cons_zero]; rfl)
            case hsx23ax3x4x5x6 => kernel_rfl
            case hfx23ax3x4x5x6 => kernel_rfl
            case hrx23ax3x4x5x6 => kernel_rfl
            case hQx23ax3x4x5x6 => exact fun _ _ _ h => h
            case hwx23ax3x4x5x6 => rfl
            simp only [Act.put, List.setIfInBounds_toArray, List.set_cons_succ, List.set_cons_zero]
            refine' wpAnyH_take (i := 24) ?h1x24ax3x4x5x6 ?hsx24ax3x4x5x6 ?hfx24ax3x4x5x6 ?hrx24ax3x4x5x6 ?hQx24ax3x4x5x6 (Or.inr ⟨?hwx24ax3x4x5x6, rfl⟩) hS ?restx24ax3x4x5x6
            case h1x24ax3x4x5x6 => (simp only [List.getElem?_toArray, List.getElem?_cons_succ, List.getElem?_cons_zero]; rfl)
            case hsx24ax3x4x5x6 => kernel_rfl
            case hfx24ax3x4x5x6 => kernel_rfl
            case hrx24ax3x4x5x6 => kernel_rfl
            case hQx24ax3x4x5x6 => exact fun _ _ _ h => h
            case hwx24ax3x4x5x6 => rfl
            simp only [Act.put, List.setIfInBounds_toArray, List.set_cons_succ, List.set_cons_zero]
            refine' wpAnyH_take (i := 25) ?h1x25ax3x4x5x6 ?hsx25ax3x4x5x6 ?hfx25ax3x4x5x6 ?hrx25ax3x4x5x6 ?hQx25ax3x4x5x6 (Or.inl ⟨?hwx25ax3x4x5x6, ?hyx25ax3x4x5x6⟩) hS ?restx25ax3x4x5x6
            case h1x25ax3x4x5x6 => (simp only [List.getElem?_toArray, List.getElem?_cons_succ, List.getElem?_cons_zero]; rfl)
            case hsx25ax3x4x5x6 => kernel_rfl
            case hfx25ax3x4x5x6 => kernel_rfl
            case hrx25ax3x4x5x6 => kernel_rfl
            case hQx25ax3x4x5x6 => exact fun _ _ _ h => h
            case hwx25ax3x4x5x6 => rfl
            case hyx25ax3x4x5x6 =>
              intro W hW
              go_simp
              try with_reducible rfl
            simp only [Act.put, List.setIfInBounds_toArray, List.set_cons_succ, List.set_cons_zero]
            refine' wpAnyH_take (i := 26) ?h1x26ax3x4x5x6 ?hsx26ax3x4x5x6 ?hfx26ax3x4x5x6 ?hrx26ax3x4x5x6 ?hQx26ax3x4x5x6 (Or.inl ⟨?hwx26ax3x4x5x6, ?hyx26ax3x4x5x6⟩) hS ?restx26ax3x4x5x6
            case h1x26ax3x4x5x6 => (simp only [List.getElem?_toArray, List.getElem?_cons_succ, List.getElem?_cons_zero]; rfl)
            case hsx26ax3x4x5x6 => kernel_rfl
            case hfx26ax3x4x5x6 => kernel_rfl
            case hrx26ax3x4x5x6 => kernel_rfl
            case hQx26ax3x4x5x6 => exact fun _ _ _ h => h
            case hwx26ax3x4x5x6 => rfl
            case hyx26ax3x4x5x6 =>
              intro W hW
              go_simp
              try with_reducible rfl
            simp only [Act.put, List.setIfInBounds_toArray, List.set_cons_succ, List.set_cons_zero]
            refine wpAnyH_done (by kernel_rfl) ?_ _
            go_wp2_with fail
            go_meet
            exact ⟨rfl, hS.1, G7.out, G8.out, G11.out, G9.out, G10.out, G12.out⟩
          | false =>
            obtain ⟨rfl, e2⟩ := HF.out rfl
            have EQ0 : Hid (∀ w : World, (Op.equalIn 10000 38 (.agg (bcells L10)) (.agg (bcells (zs 44)))).run Try.prog w = .ok true w) := fun W => by rw [e2, eq38 (zs 44) (zs 44) (zs_byt _) (zs_byt _) (zs_len _) (zs_len _)]; simp
            clear e2 HT HF T3
            refine wp_region_held_drew (S := fun W => Below w.heap.size w W ∧ W.heap[(q9)]? = some (.cells (bcells L9) 38 (0, 0)) ∧ W.heap[(q10)]? = some (.cells (bcells L10) 38 (0, 0))) (by kernel_rfl) (⟨BE.out.drew, G9.out, G10.out⟩) (fun hS => ?_)
            have hb0 : Below wc.heap.size wc wc.drew := (Below.refl _ _).drew
            have qG7 := (hb0.block _ (blk_lt G7.out)).trans G7.out
            have qG8 := (hb0.block _ (blk_lt G8.out)).trans G8.out
            have qG11 := (hb0.block _ (blk_lt G11.out)).trans G11.out
            have qG9 := (hb0.block _ (blk_lt G9.out)).trans G9.out
            have qG10 := (hb0.block _ (blk_lt G10.out)).trans G10.out
            have qG12 := (hb0.block _ (blk_lt G12.out)).trans G12.out
            clear hb0 G7 G8 G11 G9 G10 G12
            generalize wc.drew = Wbs at hS qG7 qG8 qG11 qG9 qG10 qG12 ⊢
            have G7 := Lib.hid qG7
            have G8 := Lib.hid qG8
            have G11 := Lib.hid qG11
            have G9 := Lib.hid qG9
            have G10 := Lib.hid qG10
            have G12 := Lib.hid qG12
            clear qG7 qG8 qG11 qG9 qG10 qG12
            refine' wpAnyH_take (i := 0) ?h1x0b ?hsx0b ?hfx0b ?hrx0b ?hQx0b (Or.inl ⟨?hwx0b, ?hyx0b⟩) hS ?restx0b
            case h1x0b => (simp only [List.getElem?_toArray, List.getElem?_cons_zero]; rfl)
            case hsx0b => kernel_rfl
            case hfx0b => kernel_rfl
            case hrx0b => kernel_rfl
            case hQx0b => exact fun _ _ _ h => h
            case hwx0b => rfl
            case hyx0b =>
              intro W hW
              go_simp
              try with_reducible rfl
            simp only [Act.put, List.setIfInBounds_toArray, List.set_cons_succ, List.set_cons_zero]
            refine' wpAnyH_take (i := 2) ?h1x2b ?hsx2b ?hfx2b ?hrx2b ?hQx2b (Or.inl ⟨?hwx2b, ?hyx2b⟩) hS ?restx2b
            case h1x2b => (simp only [List.getElem?_toArray, List.getElem?_cons_succ, List.getElem?_cons_zero]; rfl)
            case hsx2b => kernel_rfl
            case hfx2b => kernel_rfl
            case hrx2b => kernel_rfl
            case hQx2b => exact fun _ _ _ h => h
            case hwx2b => rfl
            case hyx2b =>
              intro W hW
              go_simp
              try with_reducible rfl
            simp only [Act.put, List.setIfInBounds_toArray, List.set_cons_succ, List.set_cons_zero]
            refine' wpAnyH_take (i := 1) ?h1x1b ?hsx1b ?hfx1b ?hrx1b ?hQx1b (Or.inl ⟨?hwx1b, ?hyx1b⟩) hS ?restx1b
            case h1x1b => (simp only [List.getElem?_toArray, List.getElem?_cons_succ, List.getElem?_cons_zero]; rfl)
            case hsx1b => kernel_rfl
            case hfx1b => kernel_rfl
            case hrx1b => kernel_rfl
            case hQx1b => exact fun _ _ _ h => h
            case hwx1b => rfl
            case hyx1b =>
              intro W hW
              have cv := (SS.out W _ _ YL9.out NL9.out hW.2.1).str
              go_simp
              try with_reducible rfl
            simp only [Act.put, List.setIfInBounds_toArray, List.set_cons_succ, List.set_cons_zero]
            refine wpAnyH_ready (rs := [3]) (by kernel_rfl) (by simp) ?_
            refine' (AllReadyH.cons ?hoc3b (fun K hK => ?stc3b) AllReadyH.nil)
            case hoc3b => (simp only [List.getElem?_toArray, List.getElem?_cons_succ, List.getElem?_cons_zero]; rfl)
            go_simp
            refine (T1.out Wbs).mono ?_
            rintro e Wbx3 ⟨xa, ca, rfl, hs, hb⟩
            have G7 := Lib.hid ((hb.block _ (blk_lt G7.out)).trans G7.out)
            have G8 := Lib.hid ((hb.block _ (blk_lt G8.out)).trans G8.out)
            have G11 := Lib.hid ((hb.block _ (blk_lt G11.out)).trans G11.out)
            have G9 := Lib.hid ((hb.block _ (blk_lt G9.out)).trans G9.out)
            have G10 := Lib.hid ((hb.block _ (blk_lt G10.out)).trans G10.out)
            have G12 := Lib.hid ((hb.block _ (blk_lt G12.out)).trans G12.out)
            have Sa := Lib.hid hs
            clear hs
            go_wp2_with fail
            refine hK.out _ _ (⟨hS.1.trans (hb.mono hS.1.size), (hb.block _ (blk_lt hS.2.1)).trans hS.2.1, (hb.block _ (blk_lt hS.2.2)).trans hS.2.2⟩) (fun hHeld => ?_)
            clear hK K
            try simp only [Act.put, List.setIfInBounds_toArray, List.set_cons_succ, List.set_cons_zero]
            clear hS
            have hS := hHeld
            clear hHeld
            clear hb
            refine wpAnyH_ready (rs := [4]) (by kernel_rfl) (by simp) ?_
            refine' (AllReadyH.cons ?hoc4bx3 (fun K hK => ?stc4bx3) AllReadyH.nil)
            case hoc4bx3 => (simp only [List.getElem?_toArray, List.getElem?_cons_succ, List.getElem?_cons_zero]; rfl)
            go_simp
            have hb := (Below.refl Wbx3.heap.size Wbx3).alloc (Nat.le_refl _) (.cells #[.slice xa 8 ca] 43)
            refine hK.out _ _ (⟨hS.1.trans (hb.mono hS.1.size), (hb.block _ (blk_lt hS.2.1)).trans hS.2.1, (hb.block _ (blk_lt hS.2.2)).trans hS.2.2⟩) (fun hHeld => ?_)
            clear hK K
            try simp only [Act.put, List.setIfInBounds_toArray, List.set_cons_succ, List.set_cons_zero]
            have qGP := heap_alloc_new Wbx3 (.cells #[.slice xa 8 ca] 43)
            have hgp := hS.1.size
            have qG7 := (hb.block _ (blk_lt G7.out)).trans G7.out
            have qG8 := (hb.block _ (blk_lt G8.out)).trans G8.out
            have qG11 := (hb.block _ (blk_lt G11.out)).trans G11.out
            have qG9 := (hb.block _ (blk_lt G9.out)).trans G9.out
            have qG10 := (hb.block _ (blk_lt G10.out)).trans G10.out
            have qG12 := (hb.block _ (blk_lt G12.out)).trans G12.out
            have qSa := Sa.out.below hb
            clear hS
            have hS := hHeld
            clear hHeld
            clear hb
            clear G7 G8 G11 G9 G10 G12 Sa
            generalize Wbx3.alloc (.cells #[.slice xa 8 ca] 43) = Wbx3x4 at *
            generalize Wbx3.heap.size = gp at *
            have G7 := Lib.hid qG7
            have G8 := Lib.hid qG8
            have G11 := Lib.hid qG11
            have G9 := Lib.hid qG9
            have G10 := Lib.hid qG10
            have G12 := Lib.hid qG12
            have Sa := Lib.hid qSa
            have GP := Lib.hid qGP
            clear qG7 qG8 qG11 qG9 qG10 qG12 qSa qGP
            refine wpAnyH_ready (rs := [5]) (by kernel_rfl) (by simp) ?_
            refine' (AllReadyH.cons ?hoc5bx3x4 (fun K hK => ?stc5bx3x4) AllReadyH.nil)
            case hoc5bx3x4 => (simp only [List.getElem?_toArray, List.getElem?_cons_succ, List.getElem?_cons_zero]; rfl)
            go_simp
            refine (sl_full _ 1 [_] [be 8 n] L9 F9.out rfl (by decide) (by simp [be_len]) Wbx3x4 GP.out ⟨Sa.out, be_ne 7 n, trivial⟩).mono ?_
            rintro e Wbx3x4x5 ⟨xb, cb, rfl, hs, hb⟩
            have G7 := Lib.hid ((hb.block _ (blk_lt G7.out)).trans G7.out)
            have G8 := Lib.hid ((hb.block _ (blk_lt G8.out)).trans G8.out)
            have G11 := Lib.hid ((hb.block _ (blk_lt G11.out)).trans G11.out)
            have G9 := Lib.hid ((hb.block _ (blk_lt G9.out)).trans G9.out)
            have G10 := Lib.hid ((hb.block _ (blk_lt G10.out)).trans G10.out)
            have G12 := Lib.hid ((hb.block _ (blk_lt G12.out)).trans G12.out)
            have Sa := Lib.hid (Sa.out.below hb)
            have GP := Lib.hid ((hb.block _ (blk_lt GP.out)).trans GP.out)
            have Sb := Lib.hid hs
            clear hs
            go_wp2_with fail
            refine hK.out _ _ (⟨hS.1.trans (hb.mono hS.1.size), (hb.block _ (blk_lt hS.2.1)).trans hS.2.1, (hb.block _ (blk_lt hS.2.2)).trans hS.2.2⟩) (fun hHeld => ?_)
            clear hK K
            try simp only [Act.put, List.setIfInBounds_toArray, List.set_cons_succ, List.set_cons_zero]
            clear hS
            have hS := hHeld
            clear hHeld
            clear hb
            refine wpAnyH_ready (rs := [6]) (by kernel_rfl) (by simp) ?_
            refine' (AllReadyH.cons ?hoc6bx3x4x5 (fun K hK => ?stc6bx3x4x5) AllReadyH.nil)
            case hoc6bx3x4x5 => (simp only [List.getElem?_toArray, List.getElem?_cons_succ, List.getElem?_cons_zero]; rfl)
            have cv := Sb.out.str
            go_simp
            refine hK.out _ _ hS (fun hHeld => ?_)
            clear hK K
            try simp only [Act.put, List.setIfInBounds_toArray, List.set_cons_succ, List.set_cons_zero]
            clear hS
            have hS := hHeld
            clear hHeld
            refine' wpAnyH_take (i := 7) ?h1x7bx3x4x5x6 ?hsx7bx3x4x5x6 ?hfx7bx3x4x5x6 ?hrx7bx3x4x5x6 ?hQx7bx3x4x5x6 (Or.inl ⟨?hwx7bx3x4x5x6, ?hyx7bx3x4x5x6⟩) hS ?restx7bx3x4x5x6
            case h1x7bx3x4x5x6 => (simp only [List.getElem?_toArray, List.getElem?_cons_succ, List.getElem?_cons_zero]; rfl)
            case hsx7bx3x4x5x6 => kernel_rfl
            case hfx7bx3x4x5x6 => kernel_rfl
            case hrx7bx3x4x5x6 => kernel_rfl
            case hQx7bx3x4x5x6 => exact fun _ _ _ h => h
            case hwx7bx3x4x5x6 => rfl
            case hyx7bx3x4x5x6 =>
              intro W hW
              go_simp
              try with_reducible rfl
            simp only [Act.put, List.setIfInBounds_toArray, List.set_cons_succ, List.set_cons_zero]
            refine' wpAnyH_take (i := 8) ?h1x8bx3x4x5x6 ?hsx8bx3x4x5x6 ?hfx8bx3x4x5x6 ?hrx8bx3x4x5x6 ?hQx8bx3x4x5x6 (Or.inl ⟨?hwx8bx3x4x5x6, ?hyx8bx3x4x5x6⟩) hS ?restx8bx3x4x5x6
            case h1x8bx3x4x5x6 => (simp only [List.getElem?_toArray, List.getElem?_cons_succ, List.getElem?_cons_zero]; rfl)
            case hsx8bx3x4x5x6 => kernel_rfl
            case hfx8bx3x4x5x6 => kernel_rfl
            case hrx8bx3x4x5x6 => kernel_rfl
            case hQx8bx3x4x5x6 => exact fun _ _ _ h => h
            case hwx8bx3x4x5x6 => rfl
            case hyx8bx3x4x5x6 =>
              intro W hW
              go_simp
              try with_reducible rfl
            simp only [Act.put, List.setIfInBounds_toArray, List.set_cons_succ, List.set_cons_zero]
            refine' wpAnyH_take (i := 9) ?h1x9bx3x4x5x6 ?hsx9bx3x4x5x6 ?hfx9bx3x4x5x6 ?hrx9bx3x4x5x6 ?hQx9bx3x4x5x6 (Or.inl ⟨?hwx9bx3x4x5x6, ?hyx9bx3x4x5x6⟩) hS ?restx9bx3x4x5x6
            case h1x9bx3x4x5x6 => (simp only [List.getElem?_toArray, List.getElem?_cons_succ, List.getElem?_cons_zero]; rfl)
            case hsx9bx3x4x5x6 => kernel_rfl
            case hfx9bx3x4x5x6 => kernel_rfl
            case hrx9bx3x4x5x6 => kernel_rfl
            case hQx9bx3x4x5x6 => exact fun _ _ _ h => h
            case hwx9bx3x4x5x6 => rfl
            case hyx9bx3x4x5x6 =>
              intro W hW
              go_simp
              try with_reducible rfl
            simp only [Act.put, List.setIfInBounds_toArray, List.set_cons_succ, List.set_cons_zero]
            refine' wpAnyH_take (i := 11) ?h1x11bx3x4x5x6 ?hsx11bx3x4x5x6 ?hfx11bx3x4x5x6 ?hrx11bx3x4x5x6 ?hQx11bx3x4x5x6 (Or.inl ⟨?hwx11bx3x4x5x6, ?hyx11bx3x4x5x6⟩) hS ?restx11bx3x4x5x6
            case h1x11bx3x4x5x6 => (simp only [List.getElem?_toArray, List.getElem?_cons_succ, List.getElem?_cons_zero]; rfl)
            case hsx11bx3x4x5x6 => kernel_rfl
            case hfx11bx3x4x5x6 => kernel_rfl
            case hrx11bx3x4x5x6 => kernel_rfl
            case hQx11bx3x4x5x6 => exact fun _ _ _ h => h
            case hwx11bx3x4x5x6 => rfl
            case hyx11bx3x4x5x6 =>
              intro W hW
              go_simp
              try with_reducible rfl
            simp only [Act.put, List.setIfInBounds_toArray, List.set_cons_succ, List.set_cons_zero]
            refine' wpAnyH_take (i := 10) ?h1x10bx3x4x5x6 ?hsx10bx3x4x5x6 ?hfx10bx3x4x5x6 ?hrx10bx3x4x5x6 ?hQx10bx3x4x5x6 (Or.inl ⟨?hwx10bx3x4x5x6, ?hyx10bx3x4x5x6⟩) hS ?restx10bx3x4x5x6
            case h1x10bx3x4x5x6 => (simp only [List.getElem?_toArray, List.getElem?_cons_succ, List.getElem?_cons_zero]; rfl)
            case hsx10bx3x4x5x6 => kernel_rfl
            case hfx10bx3x4x5x6 => kernel_rfl
            case hrx10bx3x4x5x6 => kernel_rfl
            case hQx10bx3x4x5x6 => exact fun _ _ _ h => h
            case hwx10bx3x4x5x6 => rfl
            case hyx10bx3x4x5x6 =>
              intro W hW
              go_simp
              try with_reducible rfl
            simp only [Act.put, List.setIfInBounds_toArray, List.set_cons_succ, List.set_cons_zero]
            refine' wpAnyH_take (i := 12) ?h1x12bx3x4x5x6 ?hsx12bx3x4x5x6 ?hfx12bx3x4x5x6 ?hrx12bx3x4x5x6 ?hQx12bx3x4x5x6 (Or.inl ⟨?hwx12bx3x4x5x6, ?hyx12bx3x4x5x6⟩) hS ?restx12bx3x4x5x6
            case h1x12bx3x4x5x6 => (simp only [List.getElem?_toArray, List.getElem?_cons_succ, List.getElem?_cons_zero]; rfl)
            case hsx12bx3x4x5x6 => kernel_rfl
            case hfx12bx3x4x5x6 => kernel_rfl
            case hrx12bx3x4x5x6 => kernel_rfl
            case hQx12bx3x4x5x6 => exact fun _ _ _ h => h
            case hwx12bx3x4x5x6 => rfl
            case hyx12bx3x4x5x6 =>
              intro W hW
              go_simp
              try with_reducible rfl
            simp only [Act.put, List.setIfInBounds_toArray, List.set_cons_succ, List.set_cons_zero]
            refine' wpAnyH_take (i := 13) ?h1x13bx3x4x5x6 ?hsx13bx3x4x5x6 ?hfx13bx3x4x5x6 ?hrx13bx3x4x5x6 ?hQx13bx3x4x5x6 (Or.inl ⟨?hwx13bx3x4x5x6, ?hyx13bx3x4x5x6⟩) hS ?restx13bx3x4x5x6
            case h1x13bx3x4x5x6 => (simp only [List.getElem?_toArray, List.getElem?_cons_succ, List.getElem?_cons_zero]; rfl)
            case hsx13bx3x4x5x6 => kernel_rfl
            case hfx13bx3x4x5x6 => kernel_rfl
            case hrx13bx3x4x5x6 => kernel_rfl
            case hQx13bx3x4x5x6 => exact fun _ _ _ h => h
            case hwx13bx3x4x5x6 => rfl
            case hyx13bx3x4x5x6 =>
              intro W hW
              go_simp
              try with_reducible rfl
            simp only [Act.put, List.setIfInBounds_toArray, List.set_cons_succ, List.set_cons_zero]
            refine' wpAnyH_take (i := 14) ?h1x14bx3x4x5x6 ?hsx14bx3x4x5x6 ?hfx14bx3x4x5x6 ?hrx14bx3x4x5x6 ?hQx14bx3x4x5x6 (Or.inl ⟨?hwx14bx3x4x5x6, ?hyx14bx3x4x5x6⟩) hS ?restx14bx3x4x5x6
            case h1x14bx3x4x5x6 => (simp only [List.getElem?_toArray, List.getElem?_cons_succ, List.getElem?_cons_zero]; rfl)
            case hsx14bx3x4x5x6 => kernel_rfl
            case hfx14bx3x4x5x6 => kernel_rfl
            case hrx14bx3x4x5x6 => kernel_rfl
            case hQx14bx3x4x5x6 => exact fun _ _ _ h => h
            case hwx14bx3x4x5x6 => rfl
            case hyx14bx3x4x5x6 =>
              intro W hW
              go_simp
              try with_reducible rfl
            simp only [Act.put, List.setIfInBounds_toArray, List.set_cons_succ, List.set_cons_zero]
            refine' wpAnyH_take (i := 15) ?h1x15bx3x4x5x6 ?hsx15bx3x4x5x6 ?hfx15bx3x4x5x6 ?hrx15bx3x4x5x6 ?hQx15bx3x4x5x6 (Or.inl ⟨?hwx15bx3x4x5x6, ?hyx15bx3x4x5x6⟩) hS ?restx15bx3x4x5x6
            case h1x15bx3x4x5x6 => (simp only [List.getElem?_toArray, List.getElem?_cons_succ, List.getElem?_cons_zero]; rfl)
            case hsx15bx3x4x5x6 => kernel_rfl
            case hfx15bx3x4x5x6 => kernel_rfl
            case hrx15bx3x4x5x6 => kernel_rfl
            case hQx15bx3x4x5x6 => exact fun _ _ _ h => h
            case hwx15bx3x4x5x6 => rfl
            case hyx15bx3x4x5x6 =>
              intro W hW
              go_simp
              try with_reducible rfl
            simp only [Act.put, List.setIfInBounds_toArray, List.set_cons_succ, List.set_cons_zero]
            refine' wpAnyH_take (i := 16) ?h1x16bx3x4x5x6 ?hsx16bx3x4x5x6 ?hfx16bx3x4x5x6 ?hrx16bx3x4x5x6 ?hQx16bx3x4x5x6 (Or.inl ⟨?hwx16bx3x4x5x6, ?hyx16bx3x4x5x6⟩) hS ?restx16bx3x4x5x6
            case h1x16bx3x4x5x6 => (simp only [List.getElem?_toArray, List.getElem?_cons_succ, List.getElem?_cons_zero]; rfl)
            case hsx16bx3x4x5x6 => kernel_rfl
            case hfx16bx3x4x5x6 => kernel_rfl
            case hrx16bx3x4x5x6 => kernel_rfl
            case hQx16bx3x4x5x6 => exact fun _ _ _ h => h
            case hwx16bx3x4x5x6 => rfl
            case hyx16bx3x4x5x6 =>
              intro W hW
              go_simp
              try with_reducible rfl
            simp only [Act.put, List.setIfInBounds_toArray, List.set_cons_succ, List.set_cons_zero]
            refine' wpAnyH_take (i := 17) ?h1x17bx3x4x5x6 ?hsx17bx3x4x5x6 ?hfx17bx3x4x5x6 ?hrx17bx3x4x5x6 ?hQx17bx3x4x5x6 (Or.inl ⟨?hwx17bx3x4x5x6, ?hyx17bx3x4x5x6⟩) hS ?restx17bx3x4x5x6
            case h1x17bx3x4x5x6 => (simp only [List.getElem?_toArray, List.getElem?_cons_succ, List.getElem?_cons_zero]; rfl)
            case hsx17bx3x4x5x6 => kernel_rfl
            case hfx17bx3x4x5x6 => kernel_rfl
            case hrx17bx3x4x5x6 => kernel_rfl
            case hQx17bx3x4x5x6 => exact fun _ _ _ h => h
            case hwx17bx3x4x5x6 => rfl
            case hyx17bx3x4x5x6 =>
              intro W hW
              go_simp
              try with_reducible rfl
            simp only [Act.put, List.setIfInBounds_toArray, List.set_cons_succ, List.set_cons_zero]
            refine' wpAnyH_take (i := 18) ?h1x18bx3x4x5x6 ?hsx18bx3x4x5x6 ?hfx18bx3x4x5x6 ?hrx18bx3x4x5x6 ?hQx18bx3x4x5x6 (Or.inl ⟨?hwx18bx3x4x5x6, ?hyx18bx3x4x5x6⟩) hS ?restx18bx3x4x5x6
            case h1x18bx3x4x5x6 => (simp only [List.getElem?_toArray, List.getElem?_cons_succ, List.getElem?_cons_zero]; rfl)
            case hsx18bx3x4x5x6 => kernel_rfl
            case hfx18bx3x4x5x6 => kernel_rfl
            case hrx18bx3x4x5x6 => kernel_rfl
            case hQx18bx3x4x5x6 => exact fun _ _ _ h => h
            case hwx18bx3x4x5x6 => rfl
            case hyx18bx3x4x5x6 =>
              intro W hW
              go_simp
              try with_reducible rfl
            simp only [Act.put, List.setIfInBounds_toArray, List.set_cons_succ, List.set_cons_zero]
            refine' wpAnyH_take (i := 19) ?h1x19bx3x4x5x6 ?hsx19bx3x4x5x6 ?hfx19bx3x4x5x6 ?hrx19bx3x4x5x6 ?hQx19bx3x4x5x6 (Or.inl ⟨?hwx19bx3x4x5x6, ?hyx19bx3x4x5x6⟩) hS ?restx19bx3x4x5x6
            case h1x19bx3x4x5x6 => (simp only [List.getElem?_toArray, List.getElem?_cons_succ, List.getElem?_cons_zero]; rfl)
            case hsx19bx3x4x5x6 => kernel_rfl
            case hfx19bx3x4x5x6 => kernel_rfl
            case hrx19bx3x4x5x6 => kernel_rfl
            case hQx19bx3x4x5x6 => exact fun _ _ _ h => h
            case hwx19bx3x4x5x6 => rfl
            case hyx19bx3x4x5x6 =>
              intro W hW
              go_simp
              try with_reducible rfl
            simp only [Act.put, List.setIfInBounds_toArray, List.set_cons_succ, List.set_cons_zero]
            refine' wpAnyH_take (i := 20) ?h1x20bx3x4x5x6 ?hsx20bx3x4x5x6 ?hfx20bx3x4x5x6 ?hrx20bx3x4x5x6 ?hQx20bx3x4x5x6 (Or.inl ⟨?hwx20bx3x4x5x6, ?hyx20bx3x4x5x6⟩) hS ?restx20bx3x4x5x6
            case h1x20bx3x4x5x6 => (simp only [List.getElem?_toArray, List.getElem?_cons_succ, List.getElem?_cons_zero]; rfl)
            case hsx20bx3x4x5x6 => kernel_rfl
            case hfx20bx3x4x5x6 => kernel_rfl
            case hrx20bx3x4x5x6 => kernel_rfl
            case hQx20bx3x4x5x6 => exact fun _ _ _ h => h
            case hwx20bx3x4x5x6 => rfl
            case hyx20bx3x4x5x6 =>
              intro W hW
              go_simp
              try with_reducible rfl
            simp only [Act.put, List.setIfInBounds_toArray, List.set_cons_succ, List.set_cons_zero]
            refine' wpAnyH_take (i := 21) ?h1x21bx3x4x5x6 ?hsx21bx3x4x5x6 ?hfx21bx3x4x5x6 ?hrx21bx3x4x5x6 ?hQx21bx3x4x5x6 (yieldsIf_load_at ?hwx21bx3x4x5x6 38 (.tmp 10) ?hopx21bx3x4x5x6 q10 0 rfl (bcells L10) _ (fun W hW => range_row hW.2.2) Try.underlying38 rfl ?hix21bx3x4x5x6) hS ?restx21bx3x4x5x6
            case h1x21bx3x4x5x6 => (simp only [List.getElem?_toArray, List.getElem?_cons_succ, List.getElem?_cons_zero]; rfl)
            case hopx21bx3x4x5x6 => rfl
            case hsx21bx3x4x5x6 => kernel_rfl
            case hfx21bx3x4x5x6 => kernel_rfl
            case hrx21bx3x4x5x6 => kernel_rfl
            case hQx21bx3x4x5x6 => exact fun _ _ _ h => h
            case hwx21bx3x4x5x6 => rfl
            case hix21bx3x4x5x6 => exact IL10.out
            simp only [Act.put, List.setIfInBounds_toArray, List.set_cons_succ, List.set_cons_zero]
            refine' wpAnyH_take (i := 22) ?h1x22bx3x4x5x6 ?hsx22bx3x4x5x6 ?hfx22bx3x4x5x6 ?hrx22bx3x4x5x6 ?hQx22bx3x4x5x6 (yieldsIf_build ?hwx22bx3x4x5x6 38 #[] ?hopx22bx3x4x5x6 #[] ?hvx22bx3x4x5x6 b38'.out) hS ?restx22bx3x4x5x6
            case h1x22bx3x4x5x6 => (simp only [List.getElem?_toArray, List.getElem?_cons_succ, List.getElem?_cons_zero]; rfl)
            case hopx22bx3x4x5x6 => rfl
            case hvx22bx3x4x5x6 => kernel_rfl
            case hsx22bx3x4x5x6 => kernel_rfl
            case hfx22bx3x4x5x6 => kernel_rfl
            case hrx22bx3x4x5x6 => kernel_rfl
            case hQx22bx3x4x5x6 => exact fun _ _ _ h => h
            case hwx22bx3x4x5x6 => rfl
            simp only [Act.put, List.setIfInBounds_toArray, List.set_cons_succ, List.set_cons_zero]
            refine' wpAnyH_take (i := 23) ?h1x23bx3x4x5x6 ?hsx23bx3x4x5x6 ?hfx23bx3x4x5x6 ?hrx23bx3x4x5x6 ?hQx23bx3x4x5x6 (Or.inl ⟨?hwx23bx3x4x5x6, ?hyx23bx3x4x5x6⟩) hS ?restx23bx3x4x5x6
            case h1x23bx3x4x5x6 => (simp only [List.getElem?_toArray, List.getElem?_cons_succ, List.getElem?_cons_zero]; rfl)
            case hsx23bx3x4x5x6 => kernel_rfl
            case hfx23bx3x4x5x6 => kernel_rfl
            case hrx23bx3x4x5x6 => kernel_rfl
            case hQx23bx3x4x5x6 => exact fun _ _ _ h => h
            case hwx23bx3x4x5x6 => rfl
            case hyx23bx3x4x5x6 =>
              intro W hW
              have dd := EQ0.out
              go_simp
              try with_reducible rfl
            simp only [Act.put, List.setIfInBounds_toArray, List.set_cons_succ, List.set_cons_zero]
            refine' wpAnyH_take (i := 24) ?h1x24bx3x4x5x6 ?hsx24bx3x4x5x6 ?hfx24bx3x4x5x6 ?hrx24bx3x4x5x6 ?hQx24bx3x4x5x6 (Or.inl ⟨?hwx24bx3x4x5x6, ?hyx24bx3x4x5x6⟩) hS ?restx24bx3x4x5x6
            case h1x24bx3x4x5x6 => (simp only [List.getElem?_toArray, List.getElem?_cons_succ, List.getElem?_cons_zero]; rfl)
            case hsx24bx3x4x5x6 => kernel_rfl
            case hfx24bx3x4x5x6 => kernel_rfl
            case hrx24bx3x4x5x6 => kernel_rfl
            case hQx24bx3x4x5x6 => exact fun _ _ _ h => h
            case hwx24bx3x4x5x6 => rfl
            case hyx24bx3x4x5x6 =>
              intro W hW
              go_simp
              try with_reducible rfl
            simp only [Act.put, List.setIfInBounds_toArray, List.set_cons_succ, List.set_cons_zero]
            refine' wpAnyH_take (i := 25) ?h1x25bx3x4x5x6 ?hsx25bx3x4x5x6 ?hfx25bx3x4x5x6 ?hrx25bx3x4x5x6 ?hQx25bx3x4x5x6 (Or.inl ⟨?hwx25bx3x4x5x6, ?hyx25bx3x4x5x6⟩) hS ?restx25bx3x4x5x6
            case h1x25bx3x4x5x6 => (simp only [List.getElem?_toArray, List.getElem?_cons_succ, List.getElem?_cons_zero]; rfl)
            case hsx25bx3x4x5x6 => kernel_rfl
            case hfx25bx3x4x5x6 => kernel_rfl
            case hrx25bx3x4x5x6 => kernel_rfl
            case hQx25bx3x4x5x6 => exact fun _ _ _ h => h
            case hwx25bx3x4x5x6 => rfl
            case hyx25bx3x4x5x6 =>
              intro W hW
              go_simp
              try with_reducible rfl
            simp only [Act.put, List.setIfInBounds_toArray, List.set_cons_succ, List.set_cons_zero]
            refine' wpAnyH_take (i := 26) ?h1x26bx3x4x5x6 ?hsx26bx3x4x5x6 ?hfx26bx3x4x5x6 ?hrx26bx3x4x5x6 ?hQx26bx3x4x5x6 (Or.inl ⟨?hwx26bx3x4x5x6, ?hyx26bx3x4x5x6⟩) hS ?restx26bx3x4x5x6
            case h1x26bx3x4x5x6 => (simp only [List.getElem?_toArray, List.getElem?_cons_succ, List.getElem?_cons_zero]; rfl)
            case hsx26bx3x4x5x6 => kernel_rfl
            case hfx26bx3x4x5x6 => kernel_rfl
            case hrx26bx3x4x5x6 => kernel_rfl
            case hQx26bx3x4x5x6 => exact fun _ _ _ h => h
            case hwx26bx3x4x5x6 => rfl
            case hyx26bx3x4x5x6 =>
              intro W hW
              go_simp
              try with_reducible rfl
            simp only [Act.put, List.setIfInBounds_toArray, List.set_cons_succ, List.set_cons_zero]
            refine wpAnyH_done (by kernel_rfl) ?_ _
            go_wp2_with fail
            go_meet
            exact ⟨rfl, hS.1, G7.out, G8.out, G11.out, G9.out, G10.out, G12.out⟩
      case rest =>
        as_aux_lemma =>
          clear BE G7 G8 G11 G9 G10 G12
          obtain ⟨rfl, hbe, rG7, rG8, rG11, rG9, rG10, rG12⟩ := hcut
          have BE := Lib.hid hbe
          have G7 : Hid (_ = some (Obj.cells (vcells vn vb) 30 (0, 0))) := rG7
          have G8 : Hid (_ = some (Obj.cells (kcells ks kz kt) 37 (0, 0))) := rG8
          have G11 : Hid (_ = some (Obj.cells (bcells v) 38 (0, 0))) := rG11
          have G9 : Hid (_ = some (Obj.cells (bcells L9) 38 (0, 0))) := rG9
          have G10 : Hid (_ = some (Obj.cells (bcells L10) 38 (0, 0))) := rG10
          have G12 : Hid (_ = some (Obj.cells (bcells L12) 38 (0, 0))) := rG12
          clear hbe rG7 rG8 rG11 rG9 rG10 rG12
          go_upto_region 7 with (fail)
          go_cut [79] (fun s79 wx => s79 = .bool false ∧ Below w.heap.size w wx ∧ Row wx (w.heap.size) 30 (vcells vn vb) ∧ Row wx (w.heap.size + 1) 37 (kcells ks kz kt) ∧ Row wx (w.heap.size + 1 + 1) 38 (bcells v) ∧ Row wx (q9) 38 (bcells L9) ∧ Row wx (q10) 38 (bcells L10) ∧ Row wx (q12) 38 (bcells L12))
          case first =>
            as_aux_lemma =>
              cases mb with
              | true =>
                have F10 := Lib.hid (HT.out rfl).2
                have T3b := Lib.hid (T3.out rfl)
                have WB : Hid (IntKind.u64.wrap vb = vb) := by
                  have h : 1 ≤ vb ∧ vb ≤ 256 := of_decide_eq_true HM.out
                  exact wrap_of (Int.le_trans (by decide) h.1) (Int.le_trans h.2 (by decide))
                have vb1 : 0 ≤ vb := by have h : 1 ≤ vb ∧ vb ≤ 256 := of_decide_eq_true HM.out; exact Int.le_trans (by decide) h.1
                have vb2 : vb ≤ 256 := (of_decide_eq_true HM.out : 1 ≤ vb ∧ vb ≤ 256).2
                clear HT HF T3 HM
                refine wp_region_held_drew (S := fun W => Below w.heap.size w W ∧ W.heap[(w.heap.size)]? = some (.cells (vcells vn vb) 30 (0, 0)) ∧ W.heap[(q10)]? = some (.cells (bcells L10) 38 (0, 0))) (by kernel_rfl) (⟨BE.out.drew, G7.out, G10.out⟩) (fun hS => ?_)
                have hb0 : Below wc.heap.size wc wc.drew := (Below.refl _ _).drew
                have qG7 := (hb0.block _ (blk_lt G7.out)).trans G7.out
                have qG8 := (hb0.block _ (blk_lt G8.out)).trans G8.out
                have qG11 := (hb0.block _ (blk_lt G11.out)).trans G11.out
                have qG9 := (hb0.block _ (blk_lt G9.out)).trans G9.out
                have qG10 := (hb0.block _ (blk_lt G10.out)).trans G10.out
                have qG12 := (hb0.block _ (blk_lt G12.out)).trans G12.out
                clear hb0 G7 G8 G11 G9 G10 G12
                generalize wc.drew = Wcs at hS qG7 qG8 qG11 qG9 qG10 qG12 ⊢
                have G7 := Lib.hid qG7
                have G8 := Lib.hid qG8
                have G11 := Lib.hid qG11
                have G9 := Lib.hid qG9
                have G10 := Lib.hid qG10
                have G12 := Lib.hid qG12
                clear qG7 qG8 qG11 qG9 qG10 qG12
                refine' wpAnyH_take (i := 0) ?h1x0c ?hsx0c ?hfx0c ?hrx0c ?hQx0c (Or.inl ⟨?hwx0c, ?hyx0c⟩) hS ?restx0c
                case h1x0c => (simp only [List.getElem?_toArray, List.getElem?_cons_zero]; rfl)
                case hsx0c => kernel_rfl
                case hfx0c => kernel_rfl
                case hrx0c => kernel_rfl
                case hQx0c => exact fun _ _ _ h => h
                case hwx0c => rfl
                case hyx0c =>
                  intro W hW
                  go_simp
                  try with_reducible rfl
                simp only [Act.put, List.setIfInBounds_toArray, List.set_cons_succ, List.set_cons_zero]
                refine' wpAnyH_take (i := 1) ?h1x1c ?hsx1c ?hfx1c ?hrx1c ?hQx1c (Or.inl ⟨?hwx1c, ?hyx1c⟩) hS ?restx1c
                case h1x1c => (simp only [List.getElem?_toArray, List.getElem?_cons_succ, List.getElem?_cons_zero]; rfl)
                case hsx1c => kernel_rfl
                case hfx1c => kernel_rfl
                case hrx1c => kernel_rfl
                case hQx1c => exact fun _ _ _ h => h
                case hwx1c => rfl
                case hyx1c =>
                  intro W hW
                  go_simp
                  try with_reducible rfl
                simp only [Act.put, List.setIfInBounds_toArray, List.set_cons_succ, List.set_cons_zero]
                refine' wpAnyH_take (i := 2) ?h1x2c ?hsx2c ?hfx2c ?hrx2c ?hQx2c (Or.inl ⟨?hwx2c, ?hyx2c⟩) hS ?restx2c
                case h1x2c => (simp only [List.getElem?_toArray, List.getElem?_cons_succ, List.getElem?_cons_zero]; rfl)
                case hsx2c => kernel_rfl
                case hfx2c => kernel_rfl
                case hrx2c => kernel_rfl
                case hQx2c => exact fun _ _ _ h => h
                case hwx2c => rfl
                case hyx2c =>
                  intro W hW
                  go_simp
                  try with_reducible rfl
                simp only [Act.put, List.setIfInBounds_toArray, List.set_cons_succ, List.set_cons_zero]
                refine' wpAnyH_take (i := 4) ?h1x4c ?hsx4c ?hfx4c ?hrx4c ?hQx4c (Or.inl ⟨?hwx4c, ?hyx4c⟩) hS ?restx4c
                case h1x4c => (simp only [List.getElem?_toArray, List.getElem?_cons_succ, List.getElem?_cons_zero]; rfl)
                case hsx4c => kernel_rfl
                case hfx4c => kernel_rfl
                case hrx4c => kernel_rfl
                case hQx4c => exact fun _ _ _ h => h
                case hwx4c => rfl
                case hyx4c =>
                  intro W hW
                  go_simp
                  try with_reducible rfl
                simp only [Act.put, List.setIfInBounds_toArray, List.set_cons_succ, List.set_cons_zero]
                refine' wpAnyH_take (i := 7) ?h1x7c ?hsx7c ?hfx7c ?hrx7c ?hQx7c (Or.inl ⟨?hwx7c, ?hyx7c⟩) hS ?restx7c
                case h1x7c => (simp only [List.getElem?_toArray, List.getElem?_cons_succ, List.getElem?_cons_zero]; rfl)
                case hsx7c => kernel_rfl
                case hfx7c => kernel_rfl
                case hrx7c => kernel_rfl
                case hQx7c => exact fun _ _ _ h => h
                case hwx7c => rfl
                case hyx7c =>
                  intro W hW
                  go_simp
                  try with_reducible rfl
                simp only [Act.put, List.setIfInBounds_toArray, List.set_cons_succ, List.set_cons_zero]
                refine' wpAnyH_take (i := 3) ?h1x3c ?hsx3c ?hfx3c ?hrx3c ?hQx3c (Or.inl ⟨?hwx3c, ?hyx3c⟩) hS ?restx3c
                case h1x3c => (simp only [List.getElem?_toArray, List.getElem?_cons_succ, List.getElem?_cons_zero]; rfl)
                case hsx3c => kernel_rfl
                case hfx3c => kernel_rfl
                case hrx3c => kernel_rfl
                case hQx3c => exact fun _ _ _ h => h
                case hwx3c => rfl
                case hyx3c =>
                  intro W hW
                  have cv := (SS.out W _ _ YL10.out NL10.out hW.2.2).str
                  go_simp
                  try with_reducible rfl
                simp only [Act.put, List.setIfInBounds_toArray, List.set_cons_succ, List.set_cons_zero]
                refine' wpAnyH_take (i := 5) ?h1x5c ?hsx5c ?hfx5c ?hrx5c ?hQx5c (Or.inl ⟨?hwx5c, ?hyx5c⟩) hS ?restx5c
                case h1x5c => (simp only [List.getElem?_toArray, List.getElem?_cons_succ, List.getElem?_cons_zero]; rfl)
                case hsx5c => kernel_rfl
                case hfx5c => kernel_rfl
                case hrx5c => kernel_rfl
                case hQx5c => exact fun _ _ _ h => h
                case hwx5c => rfl
                case hyx5c =>
                  intro W hW
                  have dd := (C7.out _ hW.2.1).1
                  go_simp
                  try with_reducible rfl
                simp only [Act.put, List.setIfInBounds_toArray, List.set_cons_succ, List.set_cons_zero]
                refine' wpAnyH_take (i := 8) ?h1x8c ?hsx8c ?hfx8c ?hrx8c ?hQx8c (Or.inl ⟨?hwx8c, ?hyx8c⟩) hS ?restx8c
                case h1x8c => (simp only [List.getElem?_toArray, List.getElem?_cons_succ, List.getElem?_cons_zero]; rfl)
                case hsx8c => kernel_rfl
                case hfx8c => kernel_rfl
                case hrx8c => kernel_rfl
                case hQx8c => exact fun _ _ _ h => h
                case hwx8c => rfl
                case hyx8c =>
                  intro W hW
                  have dd := (C7.out _ hW.2.1).2
                  go_simp
                  try with_reducible rfl
                simp only [Act.put, List.setIfInBounds_toArray, List.set_cons_succ, List.set_cons_zero]
                refine' wpAnyH_take (i := 9) ?h1x9c ?hsx9c ?hfx9c ?hrx9c ?hQx9c (Or.inl ⟨?hwx9c, ?hyx9c⟩) hS ?restx9c
                case h1x9c => (simp only [List.getElem?_toArray, List.getElem?_cons_succ, List.getElem?_cons_zero]; rfl)
                case hsx9c => kernel_rfl
                case hfx9c => kernel_rfl
                case hrx9c => kernel_rfl
                case hQx9c => exact fun _ _ _ h => h
                case hwx9c => rfl
                case hyx9c =>
                  intro W hW
                  have dd := WB.out
                  go_simp
                  try with_reducible rfl
                simp only [Act.put, List.setIfInBounds_toArray, List.set_cons_succ, List.set_cons_zero]
                refine wpAnyH_ready (rs := [6]) (by kernel_rfl) (by simp) ?_
                refine' (AllReadyH.cons ?hoc6c (fun K hK => ?stc6c) AllReadyH.nil)
                case hoc6c => (simp only [List.getElem?_toArray, List.getElem?_cons_succ, List.getElem?_cons_zero]; rfl)
                go_simp
                refine (T2.out Wcs).mono ?_
                rintro e Wcx6 ⟨xa, ca, rfl, hs, hb⟩
                have G7 := Lib.hid ((hb.block _ (blk_lt G7.out)).trans G7.out)
                have G8 := Lib.hid ((hb.block _ (blk_lt G8.out)).trans G8.out)
                have G11 := Lib.hid ((hb.block _ (blk_lt G11.out)).trans G11.out)
                have G9 := Lib.hid ((hb.block _ (blk_lt G9.out)).trans G9.out)
                have G10 := Lib.hid ((hb.block _ (blk_lt G10.out)).trans G10.out)
                have G12 := Lib.hid ((hb.block _ (blk_lt G12.out)).trans G12.out)
                have Sa := Lib.hid hs
                clear hs
                go_wp2_with fail
                refine hK.out _ _ (⟨hS.1.trans (hb.mono hS.1.size), (hb.block _ (blk_lt hS.2.1)).trans hS.2.1, (hb.block _ (blk_lt hS.2.2)).trans hS.2.2⟩) (fun hHeld => ?_)
                clear hK K
                try simp only [Act.put, List.setIfInBounds_toArray, List.set_cons_succ, List.set_cons_zero]
                clear hS
                have hS := hHeld
                clear hHeld
                clear hb
                refine wpAnyH_ready (rs := [10]) (by kernel_rfl) (by simp) ?_
                refine' (AllReadyH.cons ?hoc10cx6 (fun K hK => ?stc10cx6) AllReadyH.nil)
                case hoc10cx6 => (simp only [List.getElem?_toArray, List.getElem?_cons_succ, List.getElem?_cons_zero]; rfl)
                go_simp
                refine (T3b.out Wcx6).mono ?_
                rintro e Wcx6x10 ⟨xb, cb, rfl, hs, hb⟩
                have G7 := Lib.hid ((hb.block _ (blk_lt G7.out)).trans G7.out)
                have G8 := Lib.hid ((hb.block _ (blk_lt G8.out)).trans G8.out)
                have G11 := Lib.hid ((hb.block _ (blk_lt G11.out)).trans G11.out)
                have G9 := Lib.hid ((hb.block _ (blk_lt G9.out)).trans G9.out)
                have G10 := Lib.hid ((hb.block _ (blk_lt G10.out)).trans G10.out)
                have G12 := Lib.hid ((hb.block _ (blk_lt G12.out)).trans G12.out)
                have Sa := Lib.hid (Sa.out.below hb)
                have Sb := Lib.hid hs
                clear hs
                go_wp2_with fail
                refine hK.out _ _ (⟨hS.1.trans (hb.mono hS.1.size), (hb.block _ (blk_lt hS.2.1)).trans hS.2.1, (hb.block _ (blk_lt hS.2.2)).trans hS.2.2⟩) (fun hHeld => ?_)
                clear hK K
                try simp only [Act.put, List.setIfInBounds_toArray, List.set_cons_succ, List.set_cons_zero]
                clear hS
                have hS := hHeld
                clear hHeld
                clear hb
                refine wpAnyH_ready (rs := [11]) (by kernel_rfl) (by simp) ?_
                refine' (AllReadyH.cons ?hoc11cx6x10 (fun K hK => ?stc11cx6x10) AllReadyH.nil)
                case hoc11cx6x10 => (simp only [List.getElem?_toArray, List.getElem?_cons_succ, List.getElem?_cons_zero]; rfl)
                go_simp
                have hb := (Below.refl Wcx6x10.heap.size Wcx6x10).alloc (Nat.le_refl _) (.cells #[.slice xa 8 ca, .slice xb 4 cb] 43)
                refine hK.out _ _ (⟨hS.1.trans (hb.mono hS.1.size), (hb.block _ (blk_lt hS.2.1)).trans hS.2.1, (hb.block _ (blk_lt hS.2.2)).trans hS.2.2⟩) (fun hHeld => ?_)
                clear hK K
                try simp only [Act.put, List.setIfInBounds_toArray, List.set_cons_succ, List.set_cons_zero]
                have qGP := heap_alloc_new Wcx6x10 (.cells #[.slice xa 8 ca, .slice xb 4 cb] 43)
                have hgp := hS.1.size
                have qG7 := (hb.block _ (blk_lt G7.out)).trans G7.out
                have qG8 := (hb.block _ (blk_lt G8.out)).trans G8.out
                have qG11 := (hb.block _ (blk_lt G11.out)).trans G11.out
                have qG9 := (hb.block _ (blk_lt G9.out)).trans G9.out
                have qG10 := (hb.block _ (blk_lt G10.out)).trans G10.out
                have qG12 := (hb.block _ (blk_lt G12.out)).trans G12.out
                have qSa := Sa.out.below hb
                have qSb := Sb.out.below hb
                clear hS
                have hS := hHeld
                clear hHeld
                clear hb
                clear G7 G8 G11 G9 G10 G12 Sa Sb
                generalize Wcx6x10.alloc (.cells #[.slice xa 8 ca, .slice xb 4 cb] 43) = Wcx6x10x11 at *
                generalize Wcx6x10.heap.size = gp at *
                have G7 := Lib.hid qG7
                have G8 := Lib.hid qG8
                have G11 := Lib.hid qG11
                have G9 := Lib.hid qG9
                have G10 := Lib.hid qG10
                have G12 := Lib.hid qG12
                have Sa := Lib.hid qSa
                have Sb := Lib.hid qSb
                have GP := Lib.hid qGP
                clear qG7 qG8 qG11 qG9 qG10 qG12 qSa qSb qGP
                refine wpAnyH_ready (rs := [12]) (by kernel_rfl) (by simp) ?_
                refine' (AllReadyH.cons ?hoc12cx6x10x11 (fun K hK => ?stc12cx6x10x11) AllReadyH.nil)
                case hoc12cx6x10x11 => (simp only [List.getElem?_toArray, List.getElem?_cons_succ, List.getElem?_cons_zero]; rfl)
                go_simp
                refine (sl_full _ 2 [_, _] [be 8 vn, be 4 vb] L10 F10.out rfl (by decide) (by simp [be_len]) Wcx6x10x11 GP.out ⟨Sa.out, be_ne 7 vn, Sb.out, be_ne 3 vb, trivial⟩).mono ?_
                rintro e Wcx6x10x11x12 ⟨xc, cc, rfl, hs, hb⟩
                have G7 := Lib.hid ((hb.block _ (blk_lt G7.out)).trans G7.out)
                have G8 := Lib.hid ((hb.block _ (blk_lt G8.out)).trans G8.out)
                have G11 := Lib.hid ((hb.block _ (blk_lt G11.out)).trans G11.out)
                have G9 := Lib.hid ((hb.block _ (blk_lt G9.out)).trans G9.out)
                have G10 := Lib.hid ((hb.block _ (blk_lt G10.out)).trans G10.out)
                have G12 := Lib.hid ((hb.block _ (blk_lt G12.out)).trans G12.out)
                have Sa := Lib.hid (Sa.out.below hb)
                have Sb := Lib.hid (Sb.out.below hb)
                have GP := Lib.hid ((hb.block _ (blk_lt GP.out)).trans GP.out)
                have Sc := Lib.hid hs
                clear hs
                go_wp2_with fail
                refine hK.out _ _ (⟨hS.1.trans (hb.mono hS.1.size), (hb.block _ (blk_lt hS.2.1)).trans hS.2.1, (hb.block _ (blk_lt hS.2.2)).trans hS.2.2⟩) (fun hHeld => ?_)
                clear hK K
                try simp only [Act.put, List.setIfInBounds_toArray, List.set_cons_succ, List.set_cons_zero]
                clear hS
                have hS := hHeld
                clear hHeld
                clear hb
                refine wpAnyH_ready (rs := [13]) (by kernel_rfl) (by simp) ?_
                refine' (AllReadyH.cons ?hoc13cx6x10x11x12 (fun K hK => ?stc13cx6x10x11x12) AllReadyH.nil)
                case hoc13cx6x10x11x12 => (simp only [List.getElem?_toArray, List.getElem?_cons_succ, List.getElem?_cons_zero]; rfl)
                have cv := Sc.out.str
                go_simp
                refine hK.out _ _ hS (fun hHeld => ?_)
                clear hK K
                try simp only [Act.put, List.setIfInBounds_toArray, List.set_cons_succ, List.set_cons_zero]
                clear hS
                have hS := hHeld
                clear hHeld
                refine' wpAnyH_take (i := 14) ?h1x14cx6x10x11x12x13 ?hsx14cx6x10x11x12x13 ?hfx14cx6x10x11x12x13 ?hrx14cx6x10x11x12x13 ?hQx14cx6x10x11x12x13 (Or.inl ⟨?hwx14cx6x10x11x12x13, ?hyx14cx6x10x11x12x13⟩) hS ?restx14cx6x10x11x12x13
                case h1x14cx6x10x11x12x13 => (simp only [List.getElem?_toArray, List.getElem?_cons_succ, List.getElem?_cons_zero]; rfl)
                case hsx14cx6x10x11x12x13 => kernel_rfl
                case hfx14cx6x10x11x12x13 => kernel_rfl
                case hrx14cx6x10x11x12x13 => kernel_rfl
                case hQx14cx6x10x11x12x13 => exact fun _ _ _ h => h
                case hwx14cx6x10x11x12x13 => rfl
                case hyx14cx6x10x11x12x13 =>
                  intro W hW
                  go_simp
                  try with_reducible rfl
                simp only [Act.put, List.setIfInBounds_toArray, List.set_cons_succ, List.set_cons_zero]
                refine' wpAnyH_take (i := 15) ?h1x15cx6x10x11x12x13 ?hsx15cx6x10x11x12x13 ?hfx15cx6x10x11x12x13 ?hrx15cx6x10x11x12x13 ?hQx15cx6x10x11x12x13 (Or.inl ⟨?hwx15cx6x10x11x12x13, ?hyx15cx6x10x11x12x13⟩) hS ?restx15cx6x10x11x12x13
                case h1x15cx6x10x11x12x13 => (simp only [List.getElem?_toArray, List.getElem?_cons_succ, List.getElem?_cons_zero]; rfl)
                case hsx15cx6x10x11x12x13 => kernel_rfl
                case hfx15cx6x10x11x12x13 => kernel_rfl
                case hrx15cx6x10x11x12x13 => kernel_rfl
                case hQx15cx6x10x11x12x13 => exact fun _ _ _ h => h
                case hwx15cx6x10x11x12x13 => rfl
                case hyx15cx6x10x11x12x13 =>
                  intro W hW
                  go_simp
                  try with_reducible rfl
                simp only [Act.put, List.setIfInBounds_toArray, List.set_cons_succ, List.set_cons_zero]
                refine wpAnyH_done (by kernel_rfl) ?_ _
                go_wp2_with fail
                go_meet
                exact ⟨rfl, hS.1, G7.out, G8.out, G11.out, G9.out, G10.out, G12.out⟩
              | false =>
                clear HT HF T3 HM
                refine wp_region_held_drew (S := fun W => Below w.heap.size w W ∧ W.heap[(w.heap.size)]? = some (.cells (vcells vn vb) 30 (0, 0)) ∧ W.heap[(q10)]? = some (.cells (bcells L10) 38 (0, 0))) (by kernel_rfl) (⟨BE.out.drew, G7.out, G10.out⟩) (fun hS => ?_)
                have hb0 : Below wc.heap.size wc wc.drew := (Below.refl _ _).drew
                have qG7 := (hb0.block _ (blk_lt G7.out)).trans G7.out
                have qG8 := (hb0.block _ (blk_lt G8.out)).trans G8.out
                have qG11 := (hb0.block _ (blk_lt G11.out)).trans G11.out
                have qG9 := (hb0.block _ (blk_lt G9.out)).trans G9.out
                have qG10 := (hb0.block _ (blk_lt G10.out)).trans G10.out
                have qG12 := (hb0.block _ (blk_lt G12.out)).trans G12.out
                clear hb0 G7 G8 G11 G9 G10 G12
                generalize wc.drew = Wds at hS qG7 qG8 qG11 qG9 qG10 qG12 ⊢
                have G7 := Lib.hid qG7
                have G8 := Lib.hid qG8
                have G11 := Lib.hid qG11
                have G9 := Lib.hid qG9
                have G10 := Lib.hid qG10
                have G12 := Lib.hid qG12
                clear qG7 qG8 qG11 qG9 qG10 qG12
                refine' wpAnyH_take (i := 0) ?h1x0d ?hsx0d ?hfx0d ?hrx0d ?hQx0d (Or.inl ⟨?hwx0d, ?hyx0d⟩) hS ?restx0d
                case h1x0d => (simp only [List.getElem?_toArray, List.getElem?_cons_zero]; rfl)
                case hsx0d => kernel_rfl
                case hfx0d => kernel_rfl
                case hrx0d => kernel_rfl
                case hQx0d => exact fun _ _ _ h => h
                case hwx0d => rfl
                case hyx0d =>
                  intro W hW
                  go_simp
                  try with_reducible rfl
                simp only [Act.put, List.setIfInBounds_toArray, List.set_cons_succ, List.set_cons_zero]
                refine' wpAnyH_take (i := 1) ?h1x1d ?hsx1d ?hfx1d ?hrx1d ?hQx1d (Or.inl ⟨?hwx1d, ?hyx1d⟩) hS ?restx1d
                case h1x1d => (simp only [List.getElem?_toArray, List.getElem?_cons_succ, List.getElem?_cons_zero]; rfl)
                case hsx1d => kernel_rfl
                case hfx1d => kernel_rfl
                case hrx1d => kernel_rfl
                case hQx1d => exact fun _ _ _ h => h
                case hwx1d => rfl
                case hyx1d =>
                  intro W hW
                  go_simp
                  try with_reducible rfl
                simp only [Act.put, List.setIfInBounds_toArray, List.set_cons_succ, List.set_cons_zero]
                refine' wpAnyH_take (i := 2) ?h1x2d ?hsx2d ?hfx2d ?hrx2d ?hQx2d (Or.inr ⟨?hwx2d, rfl⟩) hS ?restx2d
                case h1x2d => (simp only [List.getElem?_toArray, List.getElem?_cons_succ, List.getElem?_cons_zero]; rfl)
                case hsx2d => kernel_rfl
                case hfx2d => kernel_rfl
                case hrx2d => kernel_rfl
                case hQx2d => exact fun _ _ _ h => h
                case hwx2d => rfl
                simp only [Act.put, List.setIfInBounds_toArray, List.set_cons_succ, List.set_cons_zero]
                refine' wpAnyH_take (i := 4) ?h1x4d ?hsx4d ?hfx4d ?hrx4d ?hQx4d (Or.inr ⟨?hwx4d, rfl⟩) hS ?restx4d
                case h1x4d => (simp only [List.getElem?_toArray, List.getElem?_cons_succ, List.getElem?_cons_zero]; rfl)
                case hsx4d => kernel_rfl
                case hfx4d => kernel_rfl
                case hrx4d => kernel_rfl
                case hQx4d => exact fun _ _ _ h => h
                case hwx4d => rfl
                simp only [Act.put, List.setIfInBounds_toArray, List.set_cons_succ, List.set_cons_zero]
                refine' wpAnyH_take (i := 7) ?h1x7d ?hsx7d ?hfx7d ?hrx7d ?hQx7d (Or.inr ⟨?hwx7d, rfl⟩) hS ?restx7d
                case h1x7d => (simp only [List.getElem?_toArray, List.getElem?_cons_succ, List.getElem?_cons_zero]; rfl)
                case hsx7d => kernel_rfl
                case hfx7d => kernel_rfl
                case hrx7d => kernel_rfl
                case hQx7d => exact fun _ _ _ h => h
                case hwx7d => rfl
                simp only [Act.put, List.setIfInBounds_toArray, List.set_cons_succ, List.set_cons_zero]
                refine' wpAnyH_take (i := 3) ?h1x3d ?hsx3d ?hfx3d ?hrx3d ?hQx3d (Or.inr ⟨?hwx3d, rfl⟩) hS ?restx3d
                case h1x3d => (simp only [List.getElem?_toArray, List.getElem?_cons_succ, List.getElem?_cons_zero]; rfl)
                case hsx3d => kernel_rfl
                case hfx3d => kernel_rfl
                case hrx3d => kernel_rfl
                case hQx3d => exact fun _ _ _ h => h
                case hwx3d => rfl
                simp only [Act.put, List.setIfInBounds_toArray, List.set_cons_succ, List.set_cons_zero]
                refine' wpAnyH_take (i := 5) ?h1x5d ?hsx5d ?hfx5d ?hrx5d ?hQx5d (Or.inr ⟨?hwx5d, rfl⟩) hS ?restx5d
                case h1x5d => (simp only [List.getElem?_toArray, List.getElem?_cons_succ, List.getElem?_cons_zero]; rfl)
                case hsx5d => kernel_rfl
                case hfx5d => kernel_rfl
                case hrx5d => kernel_rfl
                case hQx5d => exact fun _ _ _ h => h
                case hwx5d => rfl
                simp only [Act.put, List.setIfInBounds_toArray, List.set_cons_succ, List.set_cons_zero]
                refine' wpAnyH_take (i := 8) ?h1x8d ?hsx8d ?hfx8d ?hrx8d ?hQx8d (Or.inr ⟨?hwx8d, rfl⟩) hS ?restx8d
                case h1x8d => (simp only [List.getElem?_toArray, List.getElem?_cons_succ, List.getElem?_cons_zero]; rfl)
                case hsx8d => kernel_rfl
                case hfx8d => kernel_rfl
                case hrx8d => kernel_rfl
                case hQx8d => exact fun _ _ _ h => h
                case hwx8d => rfl
                simp only [Act.put, List.setIfInBounds_toArray, List.set_cons_succ, List.set_cons_zero]
                refine' wpAnyH_take (i := 6) ?h1x6d ?hsx6d ?hfx6d ?hrx6d ?hQx6d (Or.inr ⟨?hwx6d, rfl⟩) hS ?restx6d
                case h1x6d => (simp only [List.getElem?_toArray, List.getElem?_cons_succ, List.getElem?_cons_zero]; rfl)
                case hsx6d => kernel_rfl
                case hfx6d => kernel_rfl
                case hrx6d => kernel_rfl
                case hQx6d => exact fun _ _ _ h => h
                case hwx6d => rfl
                simp only [Act.put, List.setIfInBounds_toArray, List.set_cons_succ, List.set_cons_zero]
                refine' wpAnyH_take (i := 9) ?h1x9d ?hsx9d ?hfx9d ?hrx9d ?hQx9d (Or.inr ⟨?hwx9d, rfl⟩) hS ?restx9d
                case h1x9d => (simp only [List.getElem?_toArray, List.getElem?_cons_succ, List.getElem?_cons_zero]; rfl)
                case hsx9d => kernel_rfl
                case hfx9d => kernel_rfl
                case hrx9d => kernel_rfl
                case hQx9d => exact fun _ _ _ h => h
                case hwx9d => rfl
                simp only [Act.put, List.setIfInBounds_toArray, List.set_cons_succ, List.set_cons_zero]
                refine' wpAnyH_take (i := 10) ?h1x10d ?hsx10d ?hfx10d ?hrx10d ?hQx10d (Or.inr ⟨?hwx10d, rfl⟩) hS ?restx10d
                case h1x10d => (simp only [List.getElem?_toArray, List.getElem?_cons_succ, List.getElem?_cons_zero]; rfl)
                case hsx10d => kernel_rfl
                case hfx10d => kernel_rfl
                case hrx10d => kernel_rfl
                case hQx10d => exact fun _ _ _ h => h
                case hwx10d => rfl
                simp only [Act.put, List.setIfInBounds_toArray, List.set_cons_succ, List.set_cons_zero]
                refine' wpAnyH_take (i := 11) ?h1x11d ?hsx11d ?hfx11d ?hrx11d ?hQx11d (Or.inr ⟨?hwx11d, rfl⟩) hS ?restx11d
                case h1x11d => (simp only [List.getElem?_toArray, List.getElem?_cons_succ, List.getElem?_cons_zero]; rfl)
                case hsx11d => kernel_rfl
                case hfx11d => kernel_rfl
                case hrx11d => kernel_rfl
                case hQx11d => exact fun _ _ _ h => h
                case hwx11d => rfl
                simp only [Act.put, List.setIfInBounds_toArray, List.set_cons_succ, List.set_cons_zero]
                refine' wpAnyH_take (i := 12) ?h1x12d ?hsx12d ?hfx12d ?hrx12d ?hQx12d (Or.inr ⟨?hwx12d, rfl⟩) hS ?restx12d
                case h1x12d => (simp only [List.getElem?_toArray, List.getElem?_cons_succ, List.getElem?_cons_zero]; rfl)
                case hsx12d => kernel_rfl
                case hfx12d => kernel_rfl
                case hrx12d => kernel_rfl
                case hQx12d => exact fun _ _ _ h => h
                case hwx12d => rfl
                simp only [Act.put, List.setIfInBounds_toArray, List.set_cons_succ, List.set_cons_zero]
                refine' wpAnyH_take (i := 13) ?h1x13d ?hsx13d ?hfx13d ?hrx13d ?hQx13d (Or.inr ⟨?hwx13d, rfl⟩) hS ?restx13d
                case h1x13d => (simp only [List.getElem?_toArray, List.getElem?_cons_succ, List.getElem?_cons_zero]; rfl)
                case hsx13d => kernel_rfl
                case hfx13d => kernel_rfl
                case hrx13d => kernel_rfl
                case hQx13d => exact fun _ _ _ h => h
                case hwx13d => rfl
                simp only [Act.put, List.setIfInBounds_toArray, List.set_cons_succ, List.set_cons_zero]
                refine' wpAnyH_take (i := 14) ?h1x14d ?hsx14d ?hfx14d ?hrx14d ?hQx14d (Or.inr ⟨?hwx14d, rfl⟩) hS ?restx14d
                case h1x14d => (simp only [List.getElem?_toArray, List.getElem?_cons_succ, List.getElem?_cons_zero]; rfl)
                case hsx14d => kernel_rfl
                case hfx14d => kernel_rfl
                case hrx14d => kernel_rfl
                case hQx14d => exact fun _ _ _ h => h
                case hwx14d => rfl
                simp only [Act.put, List.setIfInBounds_toArray, List.set_cons_succ, List.set_cons_zero]
                refine' wpAnyH_take (i := 15) ?h1x15d ?hsx15d ?hfx15d ?hrx15d ?hQx15d (Or.inl ⟨?hwx15d, ?hyx15d⟩) hS ?restx15d
                case h1x15d => (simp only [List.getElem?_toArray, List.getElem?_cons_succ, List.getElem?_cons_zero]; rfl)
                case hsx15d => kernel_rfl
                case hfx15d => kernel_rfl
                case hrx15d => kernel_rfl
                case hQx15d => exact fun _ _ _ h => h
                case hwx15d => rfl
                case hyx15d =>
                  intro W hW
                  go_simp
                  try with_reducible rfl
                simp only [Act.put, List.setIfInBounds_toArray, List.set_cons_succ, List.set_cons_zero]
                refine wpAnyH_done (by kernel_rfl) ?_ _
                go_wp2_with fail
                go_meet
                exact ⟨rfl, hS.1, G7.out, G8.out, G11.out, G9.out, G10.out, G12.out⟩
          case rest =>
            as_aux_lemma =>
              clear BE G7 G8 G11 G9 G10 G12
              obtain ⟨rfl, hbe, rG7, rG8, rG11, rG9, rG10, rG12⟩ := hcut
              have BE := Lib.hid hbe
              have G7 : Hid (_ = some (Obj.cells (vcells vn vb) 30 (0, 0))) := rG7
              have G8 : Hid (_ = some (Obj.cells (kcells ks kz kt) 37 (0, 0))) := rG8
              have G11 : Hid (_ = some (Obj.cells (bcells v) 38 (0, 0))) := rG11
              have G9 : Hid (_ = some (Obj.cells (bcells L9) 38 (0, 0))) := rG9
              have G10 : Hid (_ = some (Obj.cells (bcells L10) 38 (0, 0))) := rG10
              have G12 : Hid (_ = some (Obj.cells (bcells L12) 38 (0, 0))) := rG12
              clear hbe rG7 rG8 rG11 rG9 rG10 rG12
              clear HT HF T3 HM
              go_upto_region 9 with (fail)
              go_cut [96] (fun s96 wx => s96 = .bool false ∧ Below w.heap.size w wx ∧ Row wx (w.heap.size) 30 (vcells vn vb) ∧ Row wx (w.heap.size + 1) 37 (kcells ks kz kt) ∧ Row wx (w.heap.size + 1 + 1) 38 (bcells v) ∧ Row wx (q9) 38 (bcells L9) ∧ Row wx (q10) 38 (bcells L10) ∧ Row wx (q12) 38 (bcells L12))
              case first =>
                as_aux_lemma =>
                  have WS := Lib.hid (wrap_of Rks.out.1 Rks.out.2)
                  have ks1 : 0 ≤ ks := Rks.out.1
                  have ks2 : ks ≤ 4294967295 := Rks.out.2
                  refine wp_region_held_drew (S := fun W => Below w.heap.size w W ∧ W.heap[(w.heap.size + 1)]? = some (.cells (kcells ks kz kt) 37 (0, 0)) ∧ W.heap[(q12)]? = some (.cells (bcells L12) 38 (0, 0))) (by kernel_rfl) (⟨BE.out.drew, G8.out, G12.out⟩) (fun hS => ?_)
                  have hb0 : Below wc.heap.size wc wc.drew := (Below.refl _ _).drew
                  have qG7 := (hb0.block _ (blk_lt G7.out)).trans G7.out
                  have qG8 := (hb0.block _ (blk_lt G8.out)).trans G8.out
                  have qG11 := (hb0.block _ (blk_lt G11.out)).trans G11.out
                  have qG9 := (hb0.block _ (blk_lt G9.out)).trans G9.out
                  have qG10 := (hb0.block _ (blk_lt G10.out)).trans G10.out
                  have qG12 := (hb0.block _ (blk_lt G12.out)).trans G12.out
                  clear hb0 G7 G8 G11 G9 G10 G12
                  generalize wc.drew = Wes at hS qG7 qG8 qG11 qG9 qG10 qG12 ⊢
                  have G7 := Lib.hid qG7
                  have G8 := Lib.hid qG8
                  have G11 := Lib.hid qG11
                  have G9 := Lib.hid qG9
                  have G10 := Lib.hid qG10
                  have G12 := Lib.hid qG12
                  clear qG7 qG8 qG11 qG9 qG10 qG12
                  refine' wpAnyH_take (i := 0) ?h1x0e ?hsx0e ?hfx0e ?hrx0e ?hQx0e (Or.inl ⟨?hwx0e, ?hyx0e⟩) hS ?restx0e
                  case h1x0e => (simp only [List.getElem?_toArray, List.getElem?_cons_zero]; rfl)
                  case hsx0e => kernel_rfl
                  case hfx0e => kernel_rfl
                  case hrx0e => kernel_rfl
                  case hQx0e => exact fun _ _ _ h => h
                  case hwx0e => rfl
                  case hyx0e =>
                    intro W hW
                    go_simp
                    try with_reducible rfl
                  simp only [Act.put, List.setIfInBounds_toArray, List.set_cons_succ, List.set_cons_zero]
                  refine' wpAnyH_take (i := 2) ?h1x2e ?hsx2e ?hfx2e ?hrx2e ?hQx2e (Or.inl ⟨?hwx2e, ?hyx2e⟩) hS ?restx2e
                  case h1x2e => (simp only [List.getElem?_toArray, List.getElem?_cons_succ, List.getElem?_cons_zero]; rfl)
                  case hsx2e => kernel_rfl
                  case hfx2e => kernel_rfl
                  case hrx2e => kernel_rfl
                  case hQx2e => exact fun _ _ _ h => h
                  case hwx2e => rfl
                  case hyx2e =>
                    intro W hW
                    go_simp
                    try with_reducible rfl
                  simp only [Act.put, List.setIfInBounds_toArray, List.set_cons_succ, List.set_cons_zero]
                  refine' wpAnyH_take (i := 7) ?h1x7e ?hsx7e ?hfx7e ?hrx7e ?hQx7e (Or.inl ⟨?hwx7e, ?hyx7e⟩) hS ?restx7e
                  case h1x7e => (simp only [List.getElem?_toArray, List.getElem?_cons_succ, List.getElem?_cons_zero]; rfl)
                  case hsx7e => kernel_rfl
                  case hfx7e => kernel_rfl
                  case hrx7e => kernel_rfl
                  case hQx7e => exact fun _ _ _ h => h
                  case hwx7e => rfl
                  case hyx7e =>
                    intro W hW
                    go_simp
                    try with_reducible rfl
                  simp only [Act.put, List.setIfInBounds_toArray, List.set_cons_succ, List.set_cons_zero]
                  refine' wpAnyH_take (i := 10) ?h1x10e ?hsx10e ?hfx10e ?hrx10e ?hQx10e (Or.inl ⟨?hwx10e, ?hyx10e⟩) hS ?restx10e
                  case h1x10e => (simp only [List.getElem?_toArray, List.getElem?_cons_succ, List.getElem?_cons_zero]; rfl)
                  case hsx10e => kernel_rfl
                  case hfx10e => kernel_rfl
                  case hrx10e => kernel_rfl
                  case hQx10e => exact fun _ _ _ h => h
                  case hwx10e => rfl
                  case hyx10e =>
                    intro W hW
                    go_simp
                    try with_reducible rfl
                  simp only [Act.put, List.setIfInBounds_toArray, List.set_cons_succ, List.set_cons_zero]
                  refine' wpAnyH_take (i := 1) ?h1x1e ?hsx1e ?hfx1e ?hrx1e ?hQx1e (Or.inl ⟨?hwx1e, ?hyx1e⟩) hS ?restx1e
                  case h1x1e => (simp only [List.getElem?_toArray, List.getElem?_cons_succ, List.getElem?_cons_zero]; rfl)
                  case hsx1e => kernel_rfl
                  case hfx1e => kernel_rfl
                  case hrx1e => kernel_rfl
                  case hQx1e => exact fun _ _ _ h => h
                  case hwx1e => rfl
                  case hyx1e =>
                    intro W hW
                    have cv := (SS.out W _ _ YL12.out NL12.out hW.2.2).str
                    go_simp
                    try with_reducible rfl
                  simp only [Act.put, List.setIfInBounds_toArray, List.set_cons_succ, List.set_cons_zero]
                  refine' wpAnyH_take (i := 3) ?h1x3e ?hsx3e ?hfx3e ?hrx3e ?hQx3e (Or.inl ⟨?hwx3e, ?hyx3e⟩) hS ?restx3e
                  case h1x3e => (simp only [List.getElem?_toArray, List.getElem?_cons_succ, List.getElem?_cons_zero]; rfl)
                  case hsx3e => kernel_rfl
                  case hfx3e => kernel_rfl
                  case hrx3e => kernel_rfl
                  case hQx3e => exact fun _ _ _ h => h
                  case hwx3e => rfl
                  case hyx3e =>
                    intro W hW
                    go_simp
                    try with_reducible rfl
                  simp only [Act.put, List.setIfInBounds_toArray, List.set_cons_succ, List.set_cons_zero]
                  refine' wpAnyH_take (i := 8) ?h1x8e ?hsx8e ?hfx8e ?hrx8e ?hQx8e (Or.inl ⟨?hwx8e, ?hyx8e⟩) hS ?restx8e
                  case h1x8e => (simp only [List.getElem?_toArray, List.getElem?_cons_succ, List.getElem?_cons_zero]; rfl)
                  case hsx8e => kernel_rfl
                  case hfx8e => kernel_rfl
                  case hrx8e => kernel_rfl
                  case hQx8e => exact fun _ _ _ h => h
                  case hwx8e => rfl
                  case hyx8e =>
                    intro W hW
                    go_simp
                    try with_reducible rfl
                  simp only [Act.put, List.setIfInBounds_toArray, List.set_cons_succ, List.set_cons_zero]
                  refine' wpAnyH_take (i := 11) ?h1x11e ?hsx11e ?hfx11e ?hrx11e ?hQx11e (Or.inl ⟨?hwx11e, ?hyx11e⟩) hS ?restx11e
                  case h1x11e => (simp only [List.getElem?_toArray, List.getElem?_cons_succ, List.getElem?_cons_zero]; rfl)
                  case hsx11e => kernel_rfl
                  case hfx11e => kernel_rfl
                  case hrx11e => kernel_rfl
                  case hQx11e => exact fun _ _ _ h => h
                  case hwx11e => rfl
                  case hyx11e =>
                    intro W hW
                    have dd := (C8.out _ hW.2.1).2.1
                    go_simp
                    try with_reducible rfl
                  simp only [Act.put, List.setIfInBounds_toArray, List.set_cons_succ, List.set_cons_zero]
                  refine' wpAnyH_take (i := 4) ?h1x4e ?hsx4e ?hfx4e ?hrx4e ?hQx4e (Or.inl ⟨?hwx4e, ?hyx4e⟩) hS ?restx4e
                  case h1x4e => (simp only [List.getElem?_toArray, List.getElem?_cons_succ, List.getElem?_cons_zero]; rfl)
                  case hsx4e => kernel_rfl
                  case hfx4e => kernel_rfl
                  case hrx4e => kernel_rfl
                  case hQx4e => exact fun _ _ _ h => h
                  case hwx4e => rfl
                  case hyx4e =>
                    intro W hW
                    have dd := (C8.out _ hW.2.1).1
                    go_simp
                    try with_reducible rfl
                  simp only [Act.put, List.setIfInBounds_toArray, List.set_cons_succ, List.set_cons_zero]
                  refine' wpAnyH_take (i := 9) ?h1x9e ?hsx9e ?hfx9e ?hrx9e ?hQx9e (Or.inl ⟨?hwx9e, ?hyx9e⟩) hS ?restx9e
                  case h1x9e => (simp only [List.getElem?_toArray, List.getElem?_cons_succ, List.getElem?_cons_zero]; rfl)
                  case hsx9e => kernel_rfl
                  case hfx9e => kernel_rfl
                  case hrx9e => kernel_rfl
                  case hQx9e => exact fun _ _ _ h => h
                  case hwx9e => rfl
                  case hyx9e =>
                    intro W hW
                    go_simp
                    try with_reducible rfl
                  simp only [Act.put, List.setIfInBounds_toArray, List.set_cons_succ, List.set_cons_zero]
                  refine' wpAnyH_take (i := 5) ?h1x5e ?hsx5e ?hfx5e ?hrx5e ?hQx5e (Or.inl ⟨?hwx5e, ?hyx5e⟩) hS ?restx5e
                  case h1x5e => (simp only [List.getElem?_toArray, List.getElem?_cons_succ, List.getElem?_cons_zero]; rfl)
                  case hsx5e => kernel_rfl
                  case hfx5e => kernel_rfl
                  case hrx5e => kernel_rfl
                  case hQx5e => exact fun _ _ _ h => h
                  case hwx5e => rfl
                  case hyx5e =>
                    intro W hW
                    have dd := WS.out
                    go_simp
                    try with_reducible rfl
                  simp only [Act.put, List.setIfInBounds_toArray, List.set_cons_succ, List.set_cons_zero]
                  refine wpAnyH_ready (rs := [6]) (by kernel_rfl) (by simp) ?_
                  refine' (AllReadyH.cons ?hoc6e (fun K hK => ?stc6e) AllReadyH.nil)
                  case hoc6e => (simp only [List.getElem?_toArray, List.getElem?_cons_succ, List.getElem?_cons_zero]; rfl)
                  go_simp
                  refine (T4.out Wes).mono ?_
                  rintro e Wex6 ⟨xa, ca, rfl, hs, hb⟩
                  have G7 := Lib.hid ((hb.block _ (blk_lt G7.out)).trans G7.out)
                  have G8 := Lib.hid ((hb.block _ (blk_lt G8.out)).trans G8.out)
                  have G11 := Lib.hid ((hb.block _ (blk_lt G11.out)).trans G11.out)
                  have G9 := Lib.hid ((hb.block _ (blk_lt G9.out)).trans G9.out)
                  have G10 := Lib.hid ((hb.block _ (blk_lt G10.out)).trans G10.out)
                  have G12 := Lib.hid ((hb.block _ (blk_lt G12.out)).trans G12.out)
                  have Sa := Lib.hid hs
                  clear hs
                  go_wp2_with fail
                  refine hK.out _ _ (⟨hS.1.trans (hb.mono hS.1.size), (hb.block _ (blk_lt hS.2.1)).trans hS.2.1, (hb.block _ (blk_lt hS.2.2)).trans hS.2.2⟩) (fun hHeld => ?_)
                  clear hK K
                  try simp only [Act.put, List.setIfInBounds_toArray, List.set_cons_succ, List.set_cons_zero]
                  clear hS
                  have hS := hHeld
                  clear hHeld
                  clear hb
                  refine wpAnyH_ready (rs := [12]) (by kernel_rfl) (by simp) ?_
                  refine' (AllReadyH.cons ?hoc12ex6 (fun K hK => ?stc12ex6) AllReadyH.nil)
                  case hoc12ex6 => (simp only [List.getElem?_toArray, List.getElem?_cons_succ, List.getElem?_cons_zero]; rfl)
                  go_simp
                  refine (T5.out Wex6).mono ?_
                  rintro e Wex6x12 ⟨xb, cb, rfl, hs, hb⟩
                  have G7 := Lib.hid ((hb.block _ (blk_lt G7.out)).trans G7.out)
                  have G8 := Lib.hid ((hb.block _ (blk_lt G8.out)).trans G8.out)
                  have G11 := Lib.hid ((hb.block _ (blk_lt G11.out)).trans G11.out)
                  have G9 := Lib.hid ((hb.block _ (blk_lt G9.out)).trans G9.out)
                  have G10 := Lib.hid ((hb.block _ (blk_lt G10.out)).trans G10.out)
                  have G12 := Lib.hid ((hb.block _ (blk_lt G12.out)).trans G12.out)
                  have Sa := Lib.hid (Sa.out.below hb)
                  have Sb := Lib.hid hs
                  clear hs
                  go_wp2_with fail
                  refine hK.out _ _ (⟨hS.1.trans (hb.mono hS.1.size), (hb.block _ (blk_lt hS.2.1)).trans hS.2.1, (hb.block _ (blk_lt hS.2.2)).trans hS.2.2⟩) (fun hHeld => ?_)
                  clear hK K
                  try simp only [Act.put, List.setIfInBounds_toArray, List.set_cons_succ, List.set_cons_zero]
                  clear hS
                  have hS := hHeld
                  clear hHeld
                  clear hb
                  refine wpAnyH_ready (rs := [13]) (by kernel_rfl) (by simp) ?_
                  refine' (AllReadyH.cons ?hoc13ex6x12 (fun K hK => ?stc13ex6x12) AllReadyH.nil)
                  case hoc13ex6x12 => (simp only [List.getElem?_toArray, List.getElem?_cons_succ, List.getElem?_cons_zero]; rfl)
                  go_simp
                  have hb := (Below.refl Wex6x12.heap.size Wex6x12).alloc (Nat.le_refl _) (.cells #[.slice xa 4 ca, .slice (some ⟨w.heap.size + 1, 1, none⟩) 32 32, .slice xb 8 cb] 43)
                  refine hK.out _ _ (⟨hS.1.trans (hb.mono hS.1.size), (hb.block _ (blk_lt hS.2.1)).trans hS.2.1, (hb.block _ (blk_lt hS.2.2)).trans hS.2.2⟩) (fun hHeld => ?_)
                  clear hK K
                  try simp only [Act.put, List.setIfInBounds_toArray, List.set_cons_succ, List.set_cons_zero]
                  have qGP := heap_alloc_new Wex6x12 (.cells #[.slice xa 4 ca, .slice (some ⟨w.heap.size + 1, 1, none⟩) 32 32, .slice xb 8 cb] 43)
                  have hgp := hS.1.size
                  have qG7 := (hb.block _ (blk_lt G7.out)).trans G7.out
                  have qG8 := (hb.block _ (blk_lt G8.out)).trans G8.out
                  have qG11 := (hb.block _ (blk_lt G11.out)).trans G11.out
                  have qG9 := (hb.block _ (blk_lt G9.out)).trans G9.out
                  have qG10 := (hb.block _ (blk_lt G10.out)).trans G10.out
                  have qG12 := (hb.block _ (blk_lt G12.out)).trans G12.out
                  have qSa := Sa.out.below hb
                  have qSb := Sb.out.below hb
                  clear hS
                  have hS := hHeld
                  clear hHeld
                  clear hb
                  clear G7 G8 G11 G9 G10 G12 Sa Sb
                  generalize Wex6x12.alloc (.cells #[.slice xa 4 ca, .slice (some ⟨w.heap.size + 1, 1, none⟩) 32 32, .slice xb 8 cb] 43) = Wex6x12x13 at *
                  generalize Wex6x12.heap.size = gp at *
                  have G7 := Lib.hid qG7
                  have G8 := Lib.hid qG8
                  have G11 := Lib.hid qG11
                  have G9 := Lib.hid qG9
                  have G10 := Lib.hid qG10
                  have G12 := Lib.hid qG12
                  have Sa := Lib.hid qSa
                  have Sb := Lib.hid qSb
                  have GP := Lib.hid qGP
                  clear qG7 qG8 qG11 qG9 qG10 qG12 qSa qSb qGP
                  refine wpAnyH_ready (rs := [14]) (by kernel_rfl) (by simp) ?_
                  refine' (AllReadyH.cons ?hoc14ex6x12x13 (fun K hK => ?stc14ex6x12x13) AllReadyH.nil)
                  case hoc14ex6x12x13 => (simp only [List.getElem?_toArray, List.getElem?_cons_succ, List.getElem?_cons_zero]; rfl)
                  go_simp
                  refine (sl_full _ 3 [_, _, _] [be 4 ks, kz, be 8 kt] L12 F12.out rfl (by decide) (by simp [be_len, Lkz.out]) Wex6x12x13 GP.out ⟨Sa.out, be_ne 3 ks, (C8.out _ G8.out).2.2, ne_of_len Lkz.out, Sb.out, be_ne 7 kt, trivial⟩).mono ?_
                  rintro e Wex6x12x13x14 ⟨xc, cc, rfl, hs, hb⟩
                  have G7 := Lib.hid ((hb.block _ (blk_lt G7.out)).trans G7.out)
                  have G8 := Lib.hid ((hb.block _ (blk_lt G8.out)).trans G8.out)
                  have G11 := Lib.hid ((hb.block _ (blk_lt G11.out)).trans G11.out)
                  have G9 := Lib.hid ((hb.block _ (blk_lt G9.out)).trans G9.out)
                  have G10 := Lib.hid ((hb.block _ (blk_lt G10.out)).trans G10.out)
                  have G12 := Lib.hid ((hb.block _ (blk_lt G12.out)).trans G12.out)
                  have Sa := Lib.hid (Sa.out.below hb)
                  have Sb := Lib.hid (Sb.out.below hb)
                  have GP := Lib.hid ((hb.block _ (blk_lt GP.out)).trans GP.out)
                  have Sc := Lib.hid hs
                  clear hs
                  go_wp2_with fail
                  refine hK.out _ _ (⟨hS.1.trans (hb.mono hS.1.size), (hb.block _ (blk_lt hS.2.1)).trans hS.2.1, (hb.block _ (blk_lt hS.2.2)).trans hS.2.2⟩) (fun hHeld => ?_)
                  clear hK K
                  try simp only [Act.put, List.setIfInBounds_toArray, List.set_cons_succ, List.set_cons_zero]
                  clear hS
                  have hS := hHeld
                  clear hHeld
                  clear hb
                  refine wpAnyH_ready (rs := [15]) (by kernel_rfl) (by simp) ?_
                  refine' (AllReadyH.cons ?hoc15ex6x12x13x14 (fun K hK => ?stc15ex6x12x13x14) AllReadyH.nil)
                  case hoc15ex6x12x13x14 => (simp only [List.getElem?_toArray, List.getElem?_cons_succ, List.getElem?_cons_zero]; rfl)
                  have cv := Sc.out.str
                  go_simp
                  refine hK.out _ _ hS (fun hHeld => ?_)
                  clear hK K
                  try simp only [Act.put, List.setIfInBounds_toArray, List.set_cons_succ, List.set_cons_zero]
                  clear hS
                  have hS := hHeld
                  clear hHeld
                  refine' wpAnyH_take (i := 16) ?h1x16ex6x12x13x14x15 ?hsx16ex6x12x13x14x15 ?hfx16ex6x12x13x14x15 ?hrx16ex6x12x13x14x15 ?hQx16ex6x12x13x14x15 (Or.inl ⟨?hwx16ex6x12x13x14x15, ?hyx16ex6x12x13x14x15⟩) hS ?restx16ex6x12x13x14x15
                  case h1x16ex6x12x13x14x15 => (simp only [List.getElem?_toArray, List.getElem?_cons_succ, List.getElem?_cons_zero]; rfl)
                  case hsx16ex6x12x13x14x15 => kernel_rfl
                  case hfx16ex6x12x13x14x15 => kernel_rfl
                  case hrx16ex6x12x13x14x15 => kernel_rfl
                  case hQx16ex6x12x13x14x15 => exact fun _ _ _ h => h
                  case hwx16ex6x12x13x14x15 => rfl
                  case hyx16ex6x12x13x14x15 =>
                    intro W hW
                    go_simp
                    try with_reducible rfl
                  simp only [Act.put, List.setIfInBounds_toArray, List.set_cons_succ, List.set_cons_zero]
                  refine wpAnyH_done (by kernel_rfl) ?_ _
                  go_wp2_with fail
                  go_meet
                  exact ⟨rfl, hS.1, G7.out, G8.out, G11.out, G9.out, G10.out, G12.out⟩
              case rest =>
                as_aux_lemma =>
                  clear BE G7 G8 G11 G9 G10 G12
                  obtain ⟨rfl, hbe, rG7, rG8, rG11, rG9, rG10, rG12⟩ := hcut
                  have BE := Lib.hid hbe
                  have G7 : Hid (_ = some (Obj.cells (vcells vn vb) 30 (0, 0))) := rG7
                  have G8 : Hid (_ = some (Obj.cells (kcells ks kz kt) 37 (0, 0))) := rG8
                  have G11 : Hid (_ = some (Obj.cells (bcells v) 38 (0, 0))) := rG11
                  have G9 : Hid (_ = some (Obj.cells (bcells L9) 38 (0, 0))) := rG9
                  have G10 : Hid (_ = some (Obj.cells (bcells L10) 38 (0, 0))) := rG10
                  have G12 : Hid (_ = some (Obj.cells (bcells L12) 38 (0, 0))) := rG12
                  clear hbe rG7 rG8 rG11 rG9 rG10 rG12
                  go_wp2_with (refine wpList_load_row rfl 38 (.tmp 7) rfl (w.heap.size + 1 + 1) rfl 38 (bcells v) (0, 0) _ G11.out Try.underlying38 rfl Iv.out ?_)
                  refine (K20.out _).mono ?_
                  rintro e u11 ⟨rfl, hb⟩
                  have G7' := Lib.hid ((hb.block _ (blk_lt G7.out)).trans G7.out)
                  have G8' := Lib.hid ((hb.block _ (blk_lt G8.out)).trans G8.out)
                  have G11' := Lib.hid ((hb.block _ (blk_lt G11.out)).trans G11.out)
                  have G9' := Lib.hid ((hb.block _ (blk_lt G9.out)).trans G9.out)
                  have G10' := Lib.hid ((hb.block _ (blk_lt G10.out)).trans G10.out)
                  have G12' := Lib.hid ((hb.block _ (blk_lt G12.out)).trans G12.out)
                  have BE' := Lib.hid (BE.out.trans (hb.mono BE.out.size))
                  clear hb BE G7 G8 G11 G9 G10 G12
                  have G7 := Lib.hid G7'.out
                  have G8 := Lib.hid G8'.out
                  have G11 := Lib.hid G11'.out
                  have G9 := Lib.hid G9'.out
                  have G10 := Lib.hid G10'.out
                  have G12 := Lib.hid G12'.out
                  have BE := Lib.hid BE'.out
                  clear BE' G7' G8' G11' G9' G10' G12'
                  go_wp2_with (refine wpList_load_row rfl 38 (.tmp 7) rfl (w.heap.size + 1 + 1) rfl 38 (bcells v) (0, 0) _ G11.out Try.underlying38 rfl Iv.out ?_)
                  refine (K21.out _).mono ?_
                  rintro e u12 ⟨rfl, hb⟩
                  have G7' := Lib.hid ((hb.block _ (blk_lt G7.out)).trans G7.out)
                  have G8' := Lib.hid ((hb.block _ (blk_lt G8.out)).trans G8.out)
                  have G11' := Lib.hid ((hb.block _ (blk_lt G11.out)).trans G11.out)
                  have G9' := Lib.hid ((hb.block _ (blk_lt G9.out)).trans G9.out)
                  have G10' := Lib.hid ((hb.block _ (blk_lt G10.out)).trans G10.out)
                  have G12' := Lib.hid ((hb.block _ (blk_lt G12.out)).trans G12.out)
                  have BE' := Lib.hid (BE.out.trans (hb.mono BE.out.size))
                  clear hb BE G7 G8 G11 G9 G10 G12
                  have G7 := Lib.hid G7'.out
                  have G8 := Lib.hid G8'.out
                  have G11 := Lib.hid G11'.out
                  have G9 := Lib.hid G9'.out
                  have G10 := Lib.hid G10'.out
                  have G12 := Lib.hid G12'.out
                  have BE := Lib.hid BE'.out
                  clear BE' G7' G8' G11' G9' G10' G12'
                  have GN := Lib.hid (heap_alloc_new u12 (.cells (vcells 0 0) 30))
                  have RN := Lib.hid (alloc_setRowT u12 (vcells 0 0) (vcells pn pb) 30 _ rfl)
                  have hal : Below u12.heap.size u12 (u12.alloc (.cells (vcells pn pb) 30)) := (Below.refl _ _).alloc (Nat.le_refl _) _
                  have G16 := Lib.hid (heap_alloc_new u12 (.cells (vcells pn pb) 30))
                  have n16G7 := blk_lt G7.out
                  have n16G8 := blk_lt G8.out
                  have n16G11 := blk_lt G11.out
                  have n16G9 := blk_lt G9.out
                  have n16G10 := blk_lt G10.out
                  have n16G12 := blk_lt G12.out
                  have G7' := Lib.hid ((hal.block _ (blk_lt G7.out)).trans G7.out)
                  have G8' := Lib.hid ((hal.block _ (blk_lt G8.out)).trans G8.out)
                  have G11' := Lib.hid ((hal.block _ (blk_lt G11.out)).trans G11.out)
                  have G9' := Lib.hid ((hal.block _ (blk_lt G9.out)).trans G9.out)
                  have G10' := Lib.hid ((hal.block _ (blk_lt G10.out)).trans G10.out)
                  have G12' := Lib.hid ((hal.block _ (blk_lt G12.out)).trans G12.out)
                  have BE' := Lib.hid (BE.out.trans (hal.mono BE.out.size))
                  clear hal BE G7 G8 G11 G9 G10 G12
                  have G7 := Lib.hid G7'.out
                  have G8 := Lib.hid G8'.out
                  have G11 := Lib.hid G11'.out
                  have G9 := Lib.hid G9'.out
                  have G10 := Lib.hid G10'.out
                  have G12 := Lib.hid G12'.out
                  have BE := Lib.hid BE'.out
                  clear BE' G7' G8' G11' G9' G10' G12'
                  go_upto_region 13 with (refine wpList_store_row rfl 30 (.tmp 16) (.tmp 105) rfl u12.heap.size (vcells pn pb) rfl rfl 30 (vcells 0 0) GN.out IXp.out SXp.out OXp.out ?_)
                  rw [RN.out]
                  try simp only [Act.put]
                  generalize u12.alloc (.cells (vcells pn pb) 30) = u13 at *
                  generalize u12.heap.size = q16 at *
                  clear GN RN
                  go_wp2_with (refine wpList_load_row rfl 38 (.tmp 7) rfl (w.heap.size + 1 + 1) rfl 38 (bcells v) (0, 0) _ G11.out Try.underlying38 rfl Iv.out ?_)
                  refine (K22.out _).mono ?_
                  rintro e u14 ⟨rfl, hb⟩
                  have G7' := Lib.hid ((hb.block _ (blk_lt G7.out)).trans G7.out)
                  have G8' := Lib.hid ((hb.block _ (blk_lt G8.out)).trans G8.out)
                  have G11' := Lib.hid ((hb.block _ (blk_lt G11.out)).trans G11.out)
                  have G9' := Lib.hid ((hb.block _ (blk_lt G9.out)).trans G9.out)
                  have G10' := Lib.hid ((hb.block _ (blk_lt G10.out)).trans G10.out)
                  have G12' := Lib.hid ((hb.block _ (blk_lt G12.out)).trans G12.out)
                  have G16' := Lib.hid ((hb.block _ (blk_lt G16.out)).trans G16.out)
                  have BE' := Lib.hid (BE.out.trans (hb.mono BE.out.size))
                  clear hb BE G7 G8 G11 G9 G10 G12 G16
                  have G7 := Lib.hid G7'.out
                  have G8 := Lib.hid G8'.out
                  have G11 := Lib.hid G11'.out
                  have G9 := Lib.hid G9'.out
                  have G10 := Lib.hid G10'.out
                  have G12 := Lib.hid G12'.out
                  have G16 := Lib.hid G16'.out
                  have BE := Lib.hid BE'.out
                  clear BE' G7' G8' G11' G9' G10' G12' G16'
                  have GN := Lib.hid (heap_alloc_new u14 (.cells (kcells 0 (zs 32) 0) 37))
                  have RN := Lib.hid (alloc_setRowT u14 (kcells 0 (zs 32) 0) K18 37 _ rfl)
                  have hal : Below u14.heap.size u14 (u14.alloc (.cells K18 37)) := (Below.refl _ _).alloc (Nat.le_refl _) _
                  have G18 := Lib.hid (heap_alloc_new u14 (.cells K18 37))
                  have n18G7 := blk_lt G7.out
                  have n18G8 := blk_lt G8.out
                  have n18G11 := blk_lt G11.out
                  have n18G9 := blk_lt G9.out
                  have n18G10 := blk_lt G10.out
                  have n18G12 := blk_lt G12.out
                  have n18G16 := blk_lt G16.out
                  have G7' := Lib.hid ((hal.block _ (blk_lt G7.out)).trans G7.out)
                  have G8' := Lib.hid ((hal.block _ (blk_lt G8.out)).trans G8.out)
                  have G11' := Lib.hid ((hal.block _ (blk_lt G11.out)).trans G11.out)
                  have G9' := Lib.hid ((hal.block _ (blk_lt G9.out)).trans G9.out)
                  have G10' := Lib.hid ((hal.block _ (blk_lt G10.out)).trans G10.out)
                  have G12' := Lib.hid ((hal.block _ (blk_lt G12.out)).trans G12.out)
                  have G16' := Lib.hid ((hal.block _ (blk_lt G16.out)).trans G16.out)
                  have BE' := Lib.hid (BE.out.trans (hal.mono BE.out.size))
                  clear hal BE G7 G8 G11 G9 G10 G12 G16
                  have G7 := Lib.hid G7'.out
                  have G8 := Lib.hid G8'.out
                  have G11 := Lib.hid G11'.out
                  have G9 := Lib.hid G9'.out
                  have G10 := Lib.hid G10'.out
                  have G12 := Lib.hid G12'.out
                  have G16 := Lib.hid G16'.out
                  have BE := Lib.hid BE'.out
                  clear BE' G7' G8' G11' G9' G10' G12' G16'
                  go_upto_region 14 with (refine wpList_store_row rfl 37 (.tmp 18) (.tmp 108) rfl u14.heap.size K18 rfl rfl 37 (kcells 0 (zs 32) 0) GN.out IK18.out SK18.out OK18.out ?_)
                  rw [RN.out]
                  try simp only [Act.put]
                  generalize u14.alloc (.cells K18 37) = u15 at *
                  generalize u14.heap.size = q18 at *
                  clear GN RN
                  go_wp2_with (refine wpList_load_row rfl 37 (.tmp 18) rfl (q18) rfl 37 K18 (0, 0) _ G18.out Try.underlying37 rfl IK18.out ?_)
                  refine (K17b.out _).mono ?_
                  rintro e u16 ⟨rfl, hb⟩
                  have G7' := Lib.hid ((hb.block _ (blk_lt G7.out)).trans G7.out)
                  have G8' := Lib.hid ((hb.block _ (blk_lt G8.out)).trans G8.out)
                  have G11' := Lib.hid ((hb.block _ (blk_lt G11.out)).trans G11.out)
                  have G9' := Lib.hid ((hb.block _ (blk_lt G9.out)).trans G9.out)
                  have G10' := Lib.hid ((hb.block _ (blk_lt G10.out)).trans G10.out)
                  have G12' := Lib.hid ((hb.block _ (blk_lt G12.out)).trans G12.out)
                  have G16' := Lib.hid ((hb.block _ (blk_lt G16.out)).trans G16.out)
                  have G18' := Lib.hid ((hb.block _ (blk_lt G18.out)).trans G18.out)
                  have BE' := Lib.hid (BE.out.trans (hb.mono BE.out.size))
                  clear hb BE G7 G8 G11 G9 G10 G12 G16 G18
                  have G7 := Lib.hid G7'.out
                  have G8 := Lib.hid G8'.out
                  have G11 := Lib.hid G11'.out
                  have G9 := Lib.hid G9'.out
                  have G10 := Lib.hid G10'.out
                  have G12 := Lib.hid G12'.out
                  have G16 := Lib.hid G16'.out
                  have G18 := Lib.hid G18'.out
                  have BE := Lib.hid BE'.out
                  clear BE' G7' G8' G11' G9' G10' G12' G16' G18'
                  have GN := Lib.hid (heap_alloc_new u16 (.cells (bcells (zs 44)) 38))
                  have RN := Lib.hid (alloc_setRowT u16 (bcells (zs 44)) (bcells v) 38 _ rfl)
                  have hal : Below u16.heap.size u16 (u16.alloc (.cells (bcells v) 38)) := (Below.refl _ _).alloc (Nat.le_refl _) _
                  have G19 := Lib.hid (heap_alloc_new u16 (.cells (bcells v) 38))
                  have n19G7 := blk_lt G7.out
                  have n19G8 := blk_lt G8.out
                  have n19G11 := blk_lt G11.out
                  have n19G9 := blk_lt G9.out
                  have n19G10 := blk_lt G10.out
                  have n19G12 := blk_lt G12.out
                  have n19G16 := blk_lt G16.out
                  have n19G18 := blk_lt G18.out
                  have G7' := Lib.hid ((hal.block _ (blk_lt G7.out)).trans G7.out)
                  have G8' := Lib.hid ((hal.block _ (blk_lt G8.out)).trans G8.out)
                  have G11' := Lib.hid ((hal.block _ (blk_lt G11.out)).trans G11.out)
                  have G9' := Lib.hid ((hal.block _ (blk_lt G9.out)).trans G9.out)
                  have G10' := Lib.hid ((hal.block _ (blk_lt G10.out)).trans G10.out)
                  have G12' := Lib.hid ((hal.block _ (blk_lt G12.out)).trans G12.out)
                  have G16' := Lib.hid ((hal.block _ (blk_lt G16.out)).trans G16.out)
                  have G18' := Lib.hid ((hal.block _ (blk_lt G18.out)).trans G18.out)
                  have BE' := Lib.hid (BE.out.trans (hal.mono BE.out.size))
                  clear hal BE G7 G8 G11 G9 G10 G12 G16 G18
                  have G7 := Lib.hid G7'.out
                  have G8 := Lib.hid G8'.out
                  have G11 := Lib.hid G11'.out
                  have G9 := Lib.hid G9'.out
                  have G10 := Lib.hid G10'.out
                  have G12 := Lib.hid G12'.out
                  have G16 := Lib.hid G16'.out
                  have G18 := Lib.hid G18'.out
                  have BE := Lib.hid BE'.out
                  clear BE' G7' G8' G11' G9' G10' G12' G16' G18'
                  go_upto_region 15 with (refine wpList_store_row rfl 38 (.tmp 19) (.tmp 110) rfl u16.heap.size (bcells v) rfl rfl 38 (bcells (zs 44)) GN.out Iv.out Sv.out Ov.out ?_)
                  rw [RN.out]
                  try simp only [Act.put]
                  generalize u16.alloc (.cells (bcells v) 38) = u17 at *
                  generalize u16.heap.size = q19 at *
                  clear GN RN
                  go_cut [137] (fun s137 wx => s137 = .bool false ∧ Below w.heap.size w wx ∧ Row wx (w.heap.size) 30 (vcells vn vb) ∧ Row wx (w.heap.size + 1) 37 (kcells ks kz kt) ∧ Row wx (w.heap.size + 1 + 1) 38 (bcells v) ∧ Row wx (q9) 38 (bcells L9) ∧ Row wx (q10) 38 (bcells L10) ∧ Row wx (q12) 38 (bcells L12) ∧ Row wx (q16) 30 (vcells pn pb) ∧ Row wx (q18) 37 K18 ∧ Row wx (q19) 38 (bcells v))
                  case first =>
                    as_aux_lemma =>
                      rcases HC.out with ⟨rfl, e1, rfl⟩ | ⟨rfl, e1, rfl⟩
                      · have D1 : Hid (Calls Try.prog 23 #[.slice (some ⟨w.heap.size + 1 + 1, 0, none⟩) 44 44] u17 fun e w' => e = .returned (.bool true) ∧ u17 = w') := by
                          have := isCountC _ _ v Bv.out Lv.out _ G11.out
                          rwa [e1] at this
                        have D2 := Lib.hid (numC (w.heap.size + 1 + 1) 38 0 8 v Bv.out (by rw [Lv.out]; decide) (by decide) (by decide) 44 (by decide) (by decide) u17 G11.out)
                        clear e1
                        go_wp2_with fail
                        refine D1.out.mono ?_
                        rintro e w' ⟨rfl, rfl⟩
                        go_wp2_with fail
                        refine D2.out.mono ?_
                        rintro e w' ⟨rfl, rfl⟩
                        go_wp2_with fail
                        go_meet
                        exact ⟨rfl, BE.out, G7.out, G8.out, G11.out, G9.out, G10.out, G12.out, G16.out, G18.out, G19.out⟩
                      · have D1 : Hid (Calls Try.prog 23 #[.slice (some ⟨w.heap.size + 1 + 1, 0, none⟩) 44 44] u17 fun e w' => e = .returned (.bool false) ∧ u17 = w') := by
                          have := isCountC _ _ v Bv.out Lv.out _ G11.out
                          rwa [e1] at this
                        clear e1
                        go_wp2_with fail
                        refine D1.out.mono ?_
                        rintro e w' ⟨rfl, rfl⟩
                        go_wp2_with fail
                        go_meet
                        exact ⟨rfl, BE.out, G7.out, G8.out, G11.out, G9.out, G10.out, G12.out, G16.out, G18.out, G19.out⟩
                  case rest =>
                    as_aux_lemma =>
                      clear BE G7 G8 G11 G9 G10 G12 G16 G18 G19
                      obtain ⟨rfl, hbe, rG7, rG8, rG11, rG9, rG10, rG12, rG16, rG18, rG19⟩ := hcut
                      have BE := Lib.hid hbe
                      have G7 : Hid (_ = some (Obj.cells (vcells vn vb) 30 (0, 0))) := rG7
                      have G8 : Hid (_ = some (Obj.cells (kcells ks kz kt) 37 (0, 0))) := rG8
                      have G11 : Hid (_ = some (Obj.cells (bcells v) 38 (0, 0))) := rG11
                      have G9 : Hid (_ = some (Obj.cells (bcells L9) 38 (0, 0))) := rG9
                      have G10 : Hid (_ = some (Obj.cells (bcells L10) 38 (0, 0))) := rG10
                      have G12 : Hid (_ = some (Obj.cells (bcells L12) 38 (0, 0))) := rG12
                      have G16 : Hid (_ = some (Obj.cells (vcells pn pb) 30 (0, 0))) := rG16
                      have G18 : Hid (_ = some (Obj.cells K18 37 (0, 0))) := rG18
                      have G19 : Hid (_ = some (Obj.cells (bcells v) 38 (0, 0))) := rG19
                      clear hbe rG7 rG8 rG11 rG9 rG10 rG12 rG16 rG18 rG19
                      clear HC
                      go_upto_region 17 with (fail)
                      go_cut [174] (fun s174 wx => s174 = .bool false ∧ Below w.heap.size w wx ∧ Row wx (w.heap.size) 30 (vcells vn vb) ∧ Row wx (w.heap.size + 1) 37 (kcells ks kz kt) ∧ Row wx (w.heap.size + 1 + 1) 38 (bcells v) ∧ Row wx (q9) 38 (bcells L9) ∧ Row wx (q10) 38 (bcells L10) ∧ Row wx (q12) 38 (bcells L12) ∧ Row wx (q16) 30 (vcells pn pb) ∧ Row wx (q18) 37 K18 ∧ Row wx (q19) 38 (bcells v))
                      case first =>
                        as_aux_lemma =>
                          rcases HV.out with ⟨rfl, e1, rfl, rfl, p0, p1⟩ | ⟨rfl, e1, rfl, rfl⟩
                          · have D1 : Hid (∀ W : World, W.heap[w.heap.size + 1 + 1]? = some (.cells (bcells v) 38 (0, 0)) → Calls Try.prog 25 #[.slice (some ⟨w.heap.size + 1 + 1, 0, none⟩) 44 44] W fun e w' => e = .returned (.bool true) ∧ W = w') := fun W hW => by
                              have := isVolumeC _ _ v Bv.out Lv.out W hW
                              rwa [e1] at this
                            have D2 : Hid (∀ W : World, W.heap[w.heap.size + 1 + 1]? = some (.cells (bcells v) 38 (0, 0)) → Calls Try.prog 24 #[.slice (some ⟨w.heap.size + 1 + 1, 0, none⟩) 8 44] W fun e w' => e = .returned (.int .u64 (numI (pt v 0 8))) ∧ W = w') := fun W hW =>
                              numC (w.heap.size + 1 + 1) 38 0 8 v Bv.out (by rw [Lv.out]; decide) (by decide) (by decide) 44 (by decide) (by decide) W hW
                            have D3 : Hid (∀ W : World, W.heap[w.heap.size + 1 + 1]? = some (.cells (bcells v) 38 (0, 0)) → Calls Try.prog 24 #[.slice (some ⟨w.heap.size + 1 + 1, 8, none⟩) 4 36] W fun e w' => e = .returned (.int .u64 (numI (pt v 8 4))) ∧ W = w') := fun W hW =>
                              numC (w.heap.size + 1 + 1) 38 8 4 v Bv.out (by rw [Lv.out]; decide) (by decide) (by decide) 36 (by decide) (by decide) W hW
                            have WP0 := Lib.hid (wrap_of p0 p1)
                            clear e1
                            generalize numI (pt v 0 8) = pn at *
                            generalize numI (pt v 8 4) = pb at *
                            refine wp_region_held_drew (S := fun W => Below w.heap.size w W ∧ W.heap[(q16)]? = some (.cells (vcells pn pb) 30 (0, 0))) (by kernel_rfl) (⟨BE.out.drew, G16.out⟩) (fun hS => ?_)
                            have hb0 : Below wc.heap.size wc wc.drew := (Below.refl _ _).drew
                            have qG7 := (hb0.block _ (blk_lt G7.out)).trans G7.out
                            have qG8 := (hb0.block _ (blk_lt G8.out)).trans G8.out
                            have qG11 := (hb0.block _ (blk_lt G11.out)).trans G11.out
                            have qG9 := (hb0.block _ (blk_lt G9.out)).trans G9.out
                            have qG10 := (hb0.block _ (blk_lt G10.out)).trans G10.out
                            have qG12 := (hb0.block _ (blk_lt G12.out)).trans G12.out
                            have qG16 := (hb0.block _ (blk_lt G16.out)).trans G16.out
                            have qG18 := (hb0.block _ (blk_lt G18.out)).trans G18.out
                            have qG19 := (hb0.block _ (blk_lt G19.out)).trans G19.out
                            clear hb0 G7 G8 G11 G9 G10 G12 G16 G18 G19
                            generalize wc.drew = Wfs at hS qG7 qG8 qG11 qG9 qG10 qG12 qG16 qG18 qG19 ⊢
                            have G7 := Lib.hid qG7
                            have G8 := Lib.hid qG8
                            have G11 := Lib.hid qG11
                            have G9 := Lib.hid qG9
                            have G10 := Lib.hid qG10
                            have G12 := Lib.hid qG12
                            have G16 := Lib.hid qG16
                            have G18 := Lib.hid qG18
                            have G19 := Lib.hid qG19
                            clear qG7 qG8 qG11 qG9 qG10 qG12 qG16 qG18 qG19
                            refine' wpAnyH_take (i := 0) ?h1x0f ?hsx0f ?hfx0f ?hrx0f ?hQx0f (Or.inl ⟨?hwx0f, ?hyx0f⟩) hS ?restx0f
                            case h1x0f => (simp only [List.getElem?_toArray, List.getElem?_cons_zero]; rfl)
                            case hsx0f => kernel_rfl
                            case hfx0f => kernel_rfl
                            case hrx0f => kernel_rfl
                            case hQx0f => exact fun _ _ _ h => h
                            case hwx0f => rfl
                            case hyx0f =>
                              intro W hW
                              go_simp
                              try with_reducible rfl
                            simp only [Act.put, List.setIfInBounds_toArray, List.set_cons_succ, List.set_cons_zero]
                            refine' wpAnyH_take (i := 2) ?h1x2f ?hsx2f ?hfx2f ?hrx2f ?hQx2f (Or.inl ⟨?hwx2f, ?hyx2f⟩) hS ?restx2f
                            case h1x2f => (simp only [List.getElem?_toArray, List.getElem?_cons_succ, List.getElem?_cons_zero]; rfl)
                            case hsx2f => kernel_rfl
                            case hfx2f => kernel_rfl
                            case hrx2f => kernel_rfl
                            case hQx2f => exact fun _ _ _ h => h
                            case hwx2f => rfl
                            case hyx2f =>
                              intro W hW
                              go_simp
                              try with_reducible rfl
                            simp only [Act.put, List.setIfInBounds_toArray, List.set_cons_succ, List.set_cons_zero]
                            refine' wpAnyH_take (i := 1) ?h1x1f ?hsx1f ?hfx1f ?hrx1f ?hQx1f (Or.inl ⟨?hwx1f, ?hyx1f⟩) hS ?restx1f
                            case h1x1f => (simp only [List.getElem?_toArray, List.getElem?_cons_succ, List.getElem?_cons_zero]; rfl)
                            case hsx1f => kernel_rfl
                            case hfx1f => kernel_rfl
                            case hrx1f => kernel_rfl
                            case hQx1f => exact fun _ _ _ h => h
                            case hwx1f => rfl
                            case hyx1f =>
                              intro W hW
                              go_simp
                              try with_reducible rfl
                            simp only [Act.put, List.setIfInBounds_toArray, List.set_cons_succ, List.set_cons_zero]
                            refine wpAnyH_ready (rs := [3]) (by kernel_rfl) (by simp) ?_
                            refine' (AllReadyH.cons ?hoc3f (fun K hK => ?stc3f) AllReadyH.nil)
                            case hoc3f => (simp only [List.getElem?_toArray, List.getElem?_cons_succ, List.getElem?_cons_zero]; rfl)
                            go_simp
                            refine (D1.out Wfs G11.out).mono ?_
                            rintro e w' ⟨rfl, rfl⟩
                            go_wp2_with fail
                            refine hK.out _ _ hS (fun hHeld => ?_)
                            clear hK K
                            try simp only [Act.put, List.setIfInBounds_toArray, List.set_cons_succ, List.set_cons_zero]
                            clear hS
                            have hS := hHeld
                            clear hHeld
                            refine' wpAnyH_take (i := 4) ?h1x4fx3 ?hsx4fx3 ?hfx4fx3 ?hrx4fx3 ?hQx4fx3 (Or.inl ⟨?hwx4fx3, ?hyx4fx3⟩) hS ?restx4fx3
                            case h1x4fx3 => (simp only [List.getElem?_toArray, List.getElem?_cons_succ, List.getElem?_cons_zero]; rfl)
                            case hsx4fx3 => kernel_rfl
                            case hfx4fx3 => kernel_rfl
                            case hrx4fx3 => kernel_rfl
                            case hQx4fx3 => exact fun _ _ _ h => h
                            case hwx4fx3 => rfl
                            case hyx4fx3 =>
                              intro W hW
                              go_simp
                              try with_reducible rfl
                            simp only [Act.put, List.setIfInBounds_toArray, List.set_cons_succ, List.set_cons_zero]
                            refine' wpAnyH_take (i := 5) ?h1x5fx3 ?hsx5fx3 ?hfx5fx3 ?hrx5fx3 ?hQx5fx3 (Or.inl ⟨?hwx5fx3, ?hyx5fx3⟩) hS ?restx5fx3
                            case h1x5fx3 => (simp only [List.getElem?_toArray, List.getElem?_cons_succ, List.getElem?_cons_zero]; rfl)
                            case hsx5fx3 => kernel_rfl
                            case hfx5fx3 => kernel_rfl
                            case hrx5fx3 => kernel_rfl
                            case hQx5fx3 => exact fun _ _ _ h => h
                            case hwx5fx3 => rfl
                            case hyx5fx3 =>
                              intro W hW
                              go_simp
                              try with_reducible rfl
                            simp only [Act.put, List.setIfInBounds_toArray, List.set_cons_succ, List.set_cons_zero]
                            refine' wpAnyH_take (i := 6) ?h1x6fx3 ?hsx6fx3 ?hfx6fx3 ?hrx6fx3 ?hQx6fx3 (Or.inl ⟨?hwx6fx3, ?hyx6fx3⟩) hS ?restx6fx3
                            case h1x6fx3 => (simp only [List.getElem?_toArray, List.getElem?_cons_succ, List.getElem?_cons_zero]; rfl)
                            case hsx6fx3 => kernel_rfl
                            case hfx6fx3 => kernel_rfl
                            case hrx6fx3 => kernel_rfl
                            case hQx6fx3 => exact fun _ _ _ h => h
                            case hwx6fx3 => rfl
                            case hyx6fx3 =>
                              intro W hW
                              go_simp
                              try with_reducible rfl
                            simp only [Act.put, List.setIfInBounds_toArray, List.set_cons_succ, List.set_cons_zero]
                            refine' wpAnyH_take (i := 7) ?h1x7fx3 ?hsx7fx3 ?hfx7fx3 ?hrx7fx3 ?hQx7fx3 (Or.inl ⟨?hwx7fx3, ?hyx7fx3⟩) hS ?restx7fx3
                            case h1x7fx3 => (simp only [List.getElem?_toArray, List.getElem?_cons_succ, List.getElem?_cons_zero]; rfl)
                            case hsx7fx3 => kernel_rfl
                            case hfx7fx3 => kernel_rfl
                            case hrx7fx3 => kernel_rfl
                            case hQx7fx3 => exact fun _ _ _ h => h
                            case hwx7fx3 => rfl
                            case hyx7fx3 =>
                              intro W hW
                              go_simp
                              try with_reducible rfl
                            simp only [Act.put, List.setIfInBounds_toArray, List.set_cons_succ, List.set_cons_zero]
                            refine' wpAnyH_take (i := 8) ?h1x8fx3 ?hsx8fx3 ?hfx8fx3 ?hrx8fx3 ?hQx8fx3 (Or.inl ⟨?hwx8fx3, ?hyx8fx3⟩) hS ?restx8fx3
                            case h1x8fx3 => (simp only [List.getElem?_toArray, List.getElem?_cons_succ, List.getElem?_cons_zero]; rfl)
                            case hsx8fx3 => kernel_rfl
                            case hfx8fx3 => kernel_rfl
                            case hrx8fx3 => kernel_rfl
                            case hQx8fx3 => exact fun _ _ _ h => h
                            case hwx8fx3 => rfl
                            case hyx8fx3 =>
                              intro W hW
                              go_simp
                              try with_reducible rfl
                            simp only [Act.put, List.setIfInBounds_toArray, List.set_cons_succ, List.set_cons_zero]
                            refine' wpAnyH_take (i := 9) ?h1x9fx3 ?hsx9fx3 ?hfx9fx3 ?hrx9fx3 ?hQx9fx3 (Or.inl ⟨?hwx9fx3, ?hyx9fx3⟩) hS ?restx9fx3
                            case h1x9fx3 => (simp only [List.getElem?_toArray, List.getElem?_cons_succ, List.getElem?_cons_zero]; rfl)
                            case hsx9fx3 => kernel_rfl
                            case hfx9fx3 => kernel_rfl
                            case hrx9fx3 => kernel_rfl
                            case hQx9fx3 => exact fun _ _ _ h => h
                            case hwx9fx3 => rfl
                            case hyx9fx3 =>
                              intro W hW
                              go_simp
                              try with_reducible rfl
                            simp only [Act.put, List.setIfInBounds_toArray, List.set_cons_succ, List.set_cons_zero]
                            refine' wpAnyH_take (i := 11) ?h1x11fx3 ?hsx11fx3 ?hfx11fx3 ?hrx11fx3 ?hQx11fx3 (Or.inl ⟨?hwx11fx3, ?hyx11fx3⟩) hS ?restx11fx3
                            case h1x11fx3 => (simp only [List.getElem?_toArray, List.getElem?_cons_succ, List.getElem?_cons_zero]; rfl)
                            case hsx11fx3 => kernel_rfl
                            case hfx11fx3 => kernel_rfl
                            case hrx11fx3 => kernel_rfl
                            case hQx11fx3 => exact fun _ _ _ h => h
                            case hwx11fx3 => rfl
                            case hyx11fx3 =>
                              intro W hW
                              go_simp
                              try with_reducible rfl
                            simp only [Act.put, List.setIfInBounds_toArray, List.set_cons_succ, List.set_cons_zero]
                            refine' wpAnyH_take (i := 10) ?h1x10fx3 ?hsx10fx3 ?hfx10fx3 ?hrx10fx3 ?hQx10fx3 (Or.inl ⟨?hwx10fx3, ?hyx10fx3⟩) hS ?restx10fx3
                            case h1x10fx3 => (simp only [List.getElem?_toArray, List.getElem?_cons_succ, List.getElem?_cons_zero]; rfl)
                            case hsx10fx3 => kernel_rfl
                            case hfx10fx3 => kernel_rfl
                            case hrx10fx3 => kernel_rfl
                            case hQx10fx3 => exact fun _ _ _ h => h
                            case hwx10fx3 => rfl
                            case hyx10fx3 =>
                              intro W hW
                              have dd := vc0 hW.2
                              go_simp
                              try with_reducible rfl
                            simp only [Act.put, List.setIfInBounds_toArray, List.set_cons_succ, List.set_cons_zero]
                            refine wpAnyH_ready (rs := [12]) (by kernel_rfl) (by simp) ?_
                            refine' (AllReadyH.cons ?hoc12fx3 (fun K hK => ?stc12fx3) AllReadyH.nil)
                            case hoc12fx3 => (simp only [List.getElem?_toArray, List.getElem?_cons_succ, List.getElem?_cons_zero]; rfl)
                            go_simp
                            refine (D2.out Wfs G11.out).mono ?_
                            rintro e w' ⟨rfl, rfl⟩
                            go_wp2_with fail
                            refine hK.out _ _ hS (fun hHeld => ?_)
                            clear hK K
                            try simp only [Act.put, List.setIfInBounds_toArray, List.set_cons_succ, List.set_cons_zero]
                            clear hS
                            have hS := hHeld
                            clear hHeld
                            refine' wpAnyH_take (i := 13) ?h1x13fx3x12 ?hsx13fx3x12 ?hfx13fx3x12 ?hrx13fx3x12 ?hQx13fx3x12 (Or.inl ⟨?hwx13fx3x12, ?hyx13fx3x12⟩) hS ?restx13fx3x12
                            case h1x13fx3x12 => (simp only [List.getElem?_toArray, List.getElem?_cons_succ, List.getElem?_cons_zero]; rfl)
                            case hsx13fx3x12 => kernel_rfl
                            case hfx13fx3x12 => kernel_rfl
                            case hrx13fx3x12 => kernel_rfl
                            case hQx13fx3x12 => exact fun _ _ _ h => h
                            case hwx13fx3x12 => rfl
                            case hyx13fx3x12 =>
                              intro W hW
                              go_simp
                              try with_reducible rfl
                            simp only [Act.put, List.setIfInBounds_toArray, List.set_cons_succ, List.set_cons_zero]
                            refine' wpAnyH_take (i := 14) ?h1x14fx3x12 ?hsx14fx3x12 ?hfx14fx3x12 ?hrx14fx3x12 ?hQx14fx3x12 (Or.inl ⟨?hwx14fx3x12, ?hyx14fx3x12⟩) hS ?restx14fx3x12
                            case h1x14fx3x12 => (simp only [List.getElem?_toArray, List.getElem?_cons_succ, List.getElem?_cons_zero]; rfl)
                            case hsx14fx3x12 => kernel_rfl
                            case hfx14fx3x12 => kernel_rfl
                            case hrx14fx3x12 => kernel_rfl
                            case hQx14fx3x12 => exact fun _ _ _ h => h
                            case hwx14fx3x12 => rfl
                            case hyx14fx3x12 =>
                              intro W hW
                              go_simp
                              try with_reducible rfl
                            simp only [Act.put, List.setIfInBounds_toArray, List.set_cons_succ, List.set_cons_zero]
                            refine' wpAnyH_take (i := 15) ?h1x15fx3x12 ?hsx15fx3x12 ?hfx15fx3x12 ?hrx15fx3x12 ?hQx15fx3x12 (Or.inl ⟨?hwx15fx3x12, ?hyx15fx3x12⟩) hS ?restx15fx3x12
                            case h1x15fx3x12 => (simp only [List.getElem?_toArray, List.getElem?_cons_succ, List.getElem?_cons_zero]; rfl)
                            case hsx15fx3x12 => kernel_rfl
                            case hfx15fx3x12 => kernel_rfl
                            case hrx15fx3x12 => kernel_rfl
                            case hQx15fx3x12 => exact fun _ _ _ h => h
                            case hwx15fx3x12 => rfl
                            case hyx15fx3x12 =>
                              intro W hW
                              go_simp
                              try with_reducible rfl
                            simp only [Act.put, List.setIfInBounds_toArray, List.set_cons_succ, List.set_cons_zero]
                            refine' wpAnyH_take (i := 18) ?h1x18fx3x12 ?hsx18fx3x12 ?hfx18fx3x12 ?hrx18fx3x12 ?hQx18fx3x12 (Or.inl ⟨?hwx18fx3x12, ?hyx18fx3x12⟩) hS ?restx18fx3x12
                            case h1x18fx3x12 => (simp only [List.getElem?_toArray, List.getElem?_cons_succ, List.getElem?_cons_zero]; rfl)
                            case hsx18fx3x12 => kernel_rfl
                            case hfx18fx3x12 => kernel_rfl
                            case hrx18fx3x12 => kernel_rfl
                            case hQx18fx3x12 => exact fun _ _ _ h => h
                            case hwx18fx3x12 => rfl
                            case hyx18fx3x12 =>
                              intro W hW
                              go_simp
                              try with_reducible rfl
                            simp only [Act.put, List.setIfInBounds_toArray, List.set_cons_succ, List.set_cons_zero]
                            refine' wpAnyH_take (i := 16) ?h1x16fx3x12 ?hsx16fx3x12 ?hfx16fx3x12 ?hrx16fx3x12 ?hQx16fx3x12 (Or.inl ⟨?hwx16fx3x12, ?hyx16fx3x12⟩) hS ?restx16fx3x12
                            case h1x16fx3x12 => (simp only [List.getElem?_toArray, List.getElem?_cons_succ, List.getElem?_cons_zero]; rfl)
                            case hsx16fx3x12 => kernel_rfl
                            case hfx16fx3x12 => kernel_rfl
                            case hrx16fx3x12 => kernel_rfl
                            case hQx16fx3x12 => exact fun _ _ _ h => h
                            case hwx16fx3x12 => rfl
                            case hyx16fx3x12 =>
                              intro W hW
                              have dd := vc1 hW.2
                              go_simp
                              try with_reducible rfl
                            simp only [Act.put, List.setIfInBounds_toArray, List.set_cons_succ, List.set_cons_zero]
                            refine' wpAnyH_take (i := 17) ?h1x17fx3x12 ?hsx17fx3x12 ?hfx17fx3x12 ?hrx17fx3x12 ?hQx17fx3x12 (Or.inl ⟨?hwx17fx3x12, ?hyx17fx3x12⟩) hS ?restx17fx3x12
                            case h1x17fx3x12 => (simp only [List.getElem?_toArray, List.getElem?_cons_succ, List.getElem?_cons_zero]; rfl)
                            case hsx17fx3x12 => kernel_rfl
                            case hfx17fx3x12 => kernel_rfl
                            case hrx17fx3x12 => kernel_rfl
                            case hQx17fx3x12 => exact fun _ _ _ h => h
                            case hwx17fx3x12 => rfl
                            case hyx17fx3x12 =>
                              intro W hW
                              have dd := WP0.out
                              go_simp
                              try with_reducible rfl
                            simp only [Act.put, List.setIfInBounds_toArray, List.set_cons_succ, List.set_cons_zero]
                            refine wpAnyH_ready (rs := [19]) (by kernel_rfl) (by simp) ?_
                            refine' (AllReadyH.cons ?hoc19fx3x12 (fun K hK => ?stc19fx3x12) AllReadyH.nil)
                            case hoc19fx3x12 => (simp only [List.getElem?_toArray, List.getElem?_cons_succ, List.getElem?_cons_zero]; rfl)
                            go_simp
                            refine (D3.out Wfs G11.out).mono ?_
                            rintro e w' ⟨rfl, rfl⟩
                            go_wp2_with fail
                            refine hK.out _ _ hS (fun hHeld => ?_)
                            clear hK K
                            try simp only [Act.put, List.setIfInBounds_toArray, List.set_cons_succ, List.set_cons_zero]
                            clear hS
                            have hS := hHeld
                            clear hHeld
                            refine' wpAnyH_take (i := 20) ?h1x20fx3x12x19 ?hsx20fx3x12x19 ?hfx20fx3x12x19 ?hrx20fx3x12x19 ?hQx20fx3x12x19 (Or.inl ⟨?hwx20fx3x12x19, ?hyx20fx3x12x19⟩) hS ?restx20fx3x12x19
                            case h1x20fx3x12x19 => (simp only [List.getElem?_toArray, List.getElem?_cons_succ, List.getElem?_cons_zero]; rfl)
                            case hsx20fx3x12x19 => kernel_rfl
                            case hfx20fx3x12x19 => kernel_rfl
                            case hrx20fx3x12x19 => kernel_rfl
                            case hQx20fx3x12x19 => exact fun _ _ _ h => h
                            case hwx20fx3x12x19 => rfl
                            case hyx20fx3x12x19 =>
                              intro W hW
                              go_simp
                              try with_reducible rfl
                            simp only [Act.put, List.setIfInBounds_toArray, List.set_cons_succ, List.set_cons_zero]
                            refine' wpAnyH_take (i := 21) ?h1x21fx3x12x19 ?hsx21fx3x12x19 ?hfx21fx3x12x19 ?hrx21fx3x12x19 ?hQx21fx3x12x19 (Or.inl ⟨?hwx21fx3x12x19, ?hyx21fx3x12x19⟩) hS ?restx21fx3x12x19
                            case h1x21fx3x12x19 => (simp only [List.getElem?_toArray, List.getElem?_cons_succ, List.getElem?_cons_zero]; rfl)
                            case hsx21fx3x12x19 => kernel_rfl
                            case hfx21fx3x12x19 => kernel_rfl
                            case hrx21fx3x12x19 => kernel_rfl
                            case hQx21fx3x12x19 => exact fun _ _ _ h => h
                            case hwx21fx3x12x19 => rfl
                            case hyx21fx3x12x19 =>
                              intro W hW
                              go_simp
                              try with_reducible rfl
                            simp only [Act.put, List.setIfInBounds_toArray, List.set_cons_succ, List.set_cons_zero]
                            refine' wpAnyH_take (i := 22) ?h1x22fx3x12x19 ?hsx22fx3x12x19 ?hfx22fx3x12x19 ?hrx22fx3x12x19 ?hQx22fx3x12x19 (Or.inl ⟨?hwx22fx3x12x19, ?hyx22fx3x12x19⟩) hS ?restx22fx3x12x19
                            case h1x22fx3x12x19 => (simp only [List.getElem?_toArray, List.getElem?_cons_succ, List.getElem?_cons_zero]; rfl)
                            case hsx22fx3x12x19 => kernel_rfl
                            case hfx22fx3x12x19 => kernel_rfl
                            case hrx22fx3x12x19 => kernel_rfl
                            case hQx22fx3x12x19 => exact fun _ _ _ h => h
                            case hwx22fx3x12x19 => rfl
                            case hyx22fx3x12x19 =>
                              intro W hW
                              go_simp
                              try with_reducible rfl
                            simp only [Act.put, List.setIfInBounds_toArray, List.set_cons_succ, List.set_cons_zero]
                            refine' wpAnyH_take (i := 23) ?h1x23fx3x12x19 ?hsx23fx3x12x19 ?hfx23fx3x12x19 ?hrx23fx3x12x19 ?hQx23fx3x12x19 (Or.inl ⟨?hwx23fx3x12x19, ?hyx23fx3x12x19⟩) hS ?restx23fx3x12x19
                            case h1x23fx3x12x19 => (simp only [List.getElem?_toArray, List.getElem?_cons_succ, List.getElem?_cons_zero]; rfl)
                            case hsx23fx3x12x19 => kernel_rfl
                            case hfx23fx3x12x19 => kernel_rfl
                            case hrx23fx3x12x19 => kernel_rfl
                            case hQx23fx3x12x19 => exact fun _ _ _ h => h
                            case hwx23fx3x12x19 => rfl
                            case hyx23fx3x12x19 =>
                              intro W hW
                              go_simp
                              try with_reducible rfl
                            simp only [Act.put, List.setIfInBounds_toArray, List.set_cons_succ, List.set_cons_zero]
                            refine' wpAnyH_take (i := 24) ?h1x24fx3x12x19 ?hsx24fx3x12x19 ?hfx24fx3x12x19 ?hrx24fx3x12x19 ?hQx24fx3x12x19 (Or.inl ⟨?hwx24fx3x12x19, ?hyx24fx3x12x19⟩) hS ?restx24fx3x12x19
                            case h1x24fx3x12x19 => (simp only [List.getElem?_toArray, List.getElem?_cons_succ, List.getElem?_cons_zero]; rfl)
                            case hsx24fx3x12x19 => kernel_rfl
                            case hfx24fx3x12x19 => kernel_rfl
                            case hrx24fx3x12x19 => kernel_rfl
                            case hQx24fx3x12x19 => exact fun _ _ _ h => h
                            case hwx24fx3x12x19 => rfl
                            case hyx24fx3x12x19 =>
                              intro W hW
                              go_simp
                              try with_reducible rfl
                            simp only [Act.put, List.setIfInBounds_toArray, List.set_cons_succ, List.set_cons_zero]
                            refine' wpAnyH_take (i := 25) ?h1x25fx3x12x19 ?hsx25fx3x12x19 ?hfx25fx3x12x19 ?hrx25fx3x12x19 ?hQx25fx3x12x19 (Or.inl ⟨?hwx25fx3x12x19, ?hyx25fx3x12x19⟩) hS ?restx25fx3x12x19
                            case h1x25fx3x12x19 => (simp only [List.getElem?_toArray, List.getElem?_cons_succ, List.getElem?_cons_zero]; rfl)
                            case hsx25fx3x12x19 => kernel_rfl
                            case hfx25fx3x12x19 => kernel_rfl
                            case hrx25fx3x12x19 => kernel_rfl
                            case hQx25fx3x12x19 => exact fun _ _ _ h => h
                            case hwx25fx3x12x19 => rfl
                            case hyx25fx3x12x19 =>
                              intro W hW
                              go_simp
                              try with_reducible rfl
                            simp only [Act.put, List.setIfInBounds_toArray, List.set_cons_succ, List.set_cons_zero]
                            refine' wpAnyH_take (i := 26) ?h1x26fx3x12x19 ?hsx26fx3x12x19 ?hfx26fx3x12x19 ?hrx26fx3x12x19 ?hQx26fx3x12x19 (Or.inl ⟨?hwx26fx3x12x19, ?hyx26fx3x12x19⟩) hS ?restx26fx3x12x19
                            case h1x26fx3x12x19 => (simp only [List.getElem?_toArray, List.getElem?_cons_succ, List.getElem?_cons_zero]; rfl)
                            case hsx26fx3x12x19 => kernel_rfl
                            case hfx26fx3x12x19 => kernel_rfl
                            case hrx26fx3x12x19 => kernel_rfl
                            case hQx26fx3x12x19 => exact fun _ _ _ h => h
                            case hwx26fx3x12x19 => rfl
                            case hyx26fx3x12x19 =>
                              intro W hW
                              go_simp
                              try with_reducible rfl
                            simp only [Act.put, List.setIfInBounds_toArray, List.set_cons_succ, List.set_cons_zero]
                            refine' wpAnyH_take (i := 27) ?h1x27fx3x12x19 ?hsx27fx3x12x19 ?hfx27fx3x12x19 ?hrx27fx3x12x19 ?hQx27fx3x12x19 (Or.inl ⟨?hwx27fx3x12x19, ?hyx27fx3x12x19⟩) hS ?restx27fx3x12x19
                            case h1x27fx3x12x19 => (simp only [List.getElem?_toArray, List.getElem?_cons_succ, List.getElem?_cons_zero]; rfl)
                            case hsx27fx3x12x19 => kernel_rfl
                            case hfx27fx3x12x19 => kernel_rfl
                            case hrx27fx3x12x19 => kernel_rfl
                            case hQx27fx3x12x19 => exact fun _ _ _ h => h
                            case hwx27fx3x12x19 => rfl
                            case hyx27fx3x12x19 =>
                              intro W hW
                              go_simp
                              try with_reducible rfl
                            simp only [Act.put, List.setIfInBounds_toArray, List.set_cons_succ, List.set_cons_zero]
                            refine' wpAnyH_take (i := 28) ?h1x28fx3x12x19 ?hsx28fx3x12x19 ?hfx28fx3x12x19 ?hrx28fx3x12x19 ?hQx28fx3x12x19 (Or.inr ⟨?hwx28fx3x12x19, rfl⟩) hS ?restx28fx3x12x19
                            case h1x28fx3x12x19 => (simp only [List.getElem?_toArray, List.getElem?_cons_succ, List.getElem?_cons_zero]; rfl)
                            case hsx28fx3x12x19 => kernel_rfl
                            case hfx28fx3x12x19 => kernel_rfl
                            case hrx28fx3x12x19 => kernel_rfl
                            case hQx28fx3x12x19 => exact fun _ _ _ h => h
                            case hwx28fx3x12x19 => rfl
                            simp only [Act.put, List.setIfInBounds_toArray, List.set_cons_succ, List.set_cons_zero]
                            refine' wpAnyH_take (i := 29) ?h1x29fx3x12x19 ?hsx29fx3x12x19 ?hfx29fx3x12x19 ?hrx29fx3x12x19 ?hQx29fx3x12x19 (Or.inr ⟨?hwx29fx3x12x19, rfl⟩) hS ?restx29fx3x12x19
                            case h1x29fx3x12x19 => (simp only [List.getElem?_toArray, List.getElem?_cons_succ, List.getElem?_cons_zero]; rfl)
                            case hsx29fx3x12x19 => kernel_rfl
                            case hfx29fx3x12x19 => kernel_rfl
                            case hrx29fx3x12x19 => kernel_rfl
                            case hQx29fx3x12x19 => exact fun _ _ _ h => h
                            case hwx29fx3x12x19 => rfl
                            simp only [Act.put, List.setIfInBounds_toArray, List.set_cons_succ, List.set_cons_zero]
                            refine' wpAnyH_take (i := 30) ?h1x30fx3x12x19 ?hsx30fx3x12x19 ?hfx30fx3x12x19 ?hrx30fx3x12x19 ?hQx30fx3x12x19 (Or.inr ⟨?hwx30fx3x12x19, rfl⟩) hS ?restx30fx3x12x19
                            case h1x30fx3x12x19 => (simp only [List.getElem?_toArray, List.getElem?_cons_succ, List.getElem?_cons_zero]; rfl)
                            case hsx30fx3x12x19 => kernel_rfl
                            case hfx30fx3x12x19 => kernel_rfl
                            case hrx30fx3x12x19 => kernel_rfl
                            case hQx30fx3x12x19 => exact fun _ _ _ h => h
                            case hwx30fx3x12x19 => rfl
                            simp only [Act.put, List.setIfInBounds_toArray, List.set_cons_succ, List.set_cons_zero]
                            refine' wpAnyH_take (i := 31) ?h1x31fx3x12x19 ?hsx31fx3x12x19 ?hfx31fx3x12x19 ?hrx31fx3x12x19 ?hQx31fx3x12x19 (Or.inr ⟨?hwx31fx3x12x19, rfl⟩) hS ?restx31fx3x12x19
                            case h1x31fx3x12x19 => (simp only [List.getElem?_toArray, List.getElem?_cons_succ, List.getElem?_cons_zero]; rfl)
                            case hsx31fx3x12x19 => kernel_rfl
                            case hfx31fx3x12x19 => kernel_rfl
                            case hrx31fx3x12x19 => kernel_rfl
                            case hQx31fx3x12x19 => exact fun _ _ _ h => h
                            case hwx31fx3x12x19 => rfl
                            simp only [Act.put, List.setIfInBounds_toArray, List.set_cons_succ, List.set_cons_zero]
                            refine' wpAnyH_take (i := 32) ?h1x32fx3x12x19 ?hsx32fx3x12x19 ?hfx32fx3x12x19 ?hrx32fx3x12x19 ?hQx32fx3x12x19 (Or.inr ⟨?hwx32fx3x12x19, rfl⟩) hS ?restx32fx3x12x19
                            case h1x32fx3x12x19 => (simp only [List.getElem?_toArray, List.getElem?_cons_succ, List.getElem?_cons_zero]; rfl)
                            case hsx32fx3x12x19 => kernel_rfl
                            case hfx32fx3x12x19 => kernel_rfl
                            case hrx32fx3x12x19 => kernel_rfl
                            case hQx32fx3x12x19 => exact fun _ _ _ h => h
                            case hwx32fx3x12x19 => rfl
                            simp only [Act.put, List.setIfInBounds_toArray, List.set_cons_succ, List.set_cons_zero]
                            refine' wpAnyH_take (i := 33) ?h1x33fx3x12x19 ?hsx33fx3x12x19 ?hfx33fx3x12x19 ?hrx33fx3x12x19 ?hQx33fx3x12x19 (Or.inr ⟨?hwx33fx3x12x19, rfl⟩) hS ?restx33fx3x12x19
                            case h1x33fx3x12x19 => (simp only [List.getElem?_toArray, List.getElem?_cons_succ, List.getElem?_cons_zero]; rfl)
                            case hsx33fx3x12x19 => kernel_rfl
                            case hfx33fx3x12x19 => kernel_rfl
                            case hrx33fx3x12x19 => kernel_rfl
                            case hQx33fx3x12x19 => exact fun _ _ _ h => h
                            case hwx33fx3x12x19 => rfl
                            simp only [Act.put, List.setIfInBounds_toArray, List.set_cons_succ, List.set_cons_zero]
                            refine' wpAnyH_take (i := 34) ?h1x34fx3x12x19 ?hsx34fx3x12x19 ?hfx34fx3x12x19 ?hrx34fx3x12x19 ?hQx34fx3x12x19 (Or.inr ⟨?hwx34fx3x12x19, rfl⟩) hS ?restx34fx3x12x19
                            case h1x34fx3x12x19 => (simp only [List.getElem?_toArray, List.getElem?_cons_succ, List.getElem?_cons_zero]; rfl)
                            case hsx34fx3x12x19 => kernel_rfl
                            case hfx34fx3x12x19 => kernel_rfl
                            case hrx34fx3x12x19 => kernel_rfl
                            case hQx34fx3x12x19 => exact fun _ _ _ h => h
                            case hwx34fx3x12x19 => rfl
                            simp only [Act.put, List.setIfInBounds_toArray, List.set_cons_succ, List.set_cons_zero]
                            refine' wpAnyH_take (i := 35) ?h1x35fx3x12x19 ?hsx35fx3x12x19 ?hfx35fx3x12x19 ?hrx35fx3x12x19 ?hQx35fx3x12x19 (Or.inl ⟨?hwx35fx3x12x19, ?hyx35fx3x12x19⟩) hS ?restx35fx3x12x19
                            case h1x35fx3x12x19 => (simp only [List.getElem?_toArray, List.getElem?_cons_succ, List.getElem?_cons_zero]; rfl)
                            case hsx35fx3x12x19 => kernel_rfl
                            case hfx35fx3x12x19 => kernel_rfl
                            case hrx35fx3x12x19 => kernel_rfl
                            case hQx35fx3x12x19 => exact fun _ _ _ h => h
                            case hwx35fx3x12x19 => rfl
                            case hyx35fx3x12x19 =>
                              intro W hW
                              go_simp
                              try with_reducible rfl
                            simp only [Act.put, List.setIfInBounds_toArray, List.set_cons_succ, List.set_cons_zero]
                            refine' wpAnyH_take (i := 36) ?h1x36fx3x12x19 ?hsx36fx3x12x19 ?hfx36fx3x12x19 ?hrx36fx3x12x19 ?hQx36fx3x12x19 (Or.inl ⟨?hwx36fx3x12x19, ?hyx36fx3x12x19⟩) hS ?restx36fx3x12x19
                            case h1x36fx3x12x19 => (simp only [List.getElem?_toArray, List.getElem?_cons_succ, List.getElem?_cons_zero]; rfl)
                            case hsx36fx3x12x19 => kernel_rfl
                            case hfx36fx3x12x19 => kernel_rfl
                            case hrx36fx3x12x19 => kernel_rfl
                            case hQx36fx3x12x19 => exact fun _ _ _ h => h
                            case hwx36fx3x12x19 => rfl
                            case hyx36fx3x12x19 =>
                              intro W hW
                              go_simp
                              try with_reducible rfl
                            simp only [Act.put, List.setIfInBounds_toArray, List.set_cons_succ, List.set_cons_zero]
                            refine wpAnyH_done (by kernel_rfl) ?_ _
                            go_wp2_with fail
                            go_meet
                            exact ⟨rfl, hS.1, G7.out, G8.out, G11.out, G9.out, G10.out, G12.out, G16.out, G18.out, G19.out⟩
                          · have D1 : Hid (∀ W : World, W.heap[w.heap.size + 1 + 1]? = some (.cells (bcells v) 38 (0, 0)) → Calls Try.prog 25 #[.slice (some ⟨w.heap.size + 1 + 1, 0, none⟩) 44 44] W fun e w' => e = .returned (.bool false) ∧ W = w') := fun W hW => by
                              have := isVolumeC _ _ v Bv.out Lv.out W hW
                              rwa [e1] at this
                            have EQ0 : Hid (∀ w : World, (Op.equalIn 10000 30 (.agg (vcells 0 0)) (.agg (vcells 0 0))).run Try.prog w = .ok true w) := fun W => by rw [eq30]; simp
                            clear e1
                            refine wp_region_held_drew (S := fun W => Below w.heap.size w W ∧ W.heap[(q16)]? = some (.cells (vcells 0 0) 30 (0, 0))) (by kernel_rfl) (⟨BE.out.drew, G16.out⟩) (fun hS => ?_)
                            have hb0 : Below wc.heap.size wc wc.drew := (Below.refl _ _).drew
                            have qG7 := (hb0.block _ (blk_lt G7.out)).trans G7.out
                            have qG8 := (hb0.block _ (blk_lt G8.out)).trans G8.out
                            have qG11 := (hb0.block _ (blk_lt G11.out)).trans G11.out
                            have qG9 := (hb0.block _ (blk_lt G9.out)).trans G9.out
                            have qG10 := (hb0.block _ (blk_lt G10.out)).trans G10.out
                            have qG12 := (hb0.block _ (blk_lt G12.out)).trans G12.out
                            have qG16 := (hb0.block _ (blk_lt G16.out)).trans G16.out
                            have qG18 := (hb0.block _ (blk_lt G18.out)).trans G18.out
                            have qG19 := (hb0.block _ (blk_lt G19.out)).trans G19.out
                            clear hb0 G7 G8 G11 G9 G10 G12 G16 G18 G19
                            generalize wc.drew = Wgs at hS qG7 qG8 qG11 qG9 qG10 qG12 qG16 qG18 qG19 ⊢
                            have G7 := Lib.hid qG7
                            have G8 := Lib.hid qG8
                            have G11 := Lib.hid qG11
                            have G9 := Lib.hid qG9
                            have G10 := Lib.hid qG10
                            have G12 := Lib.hid qG12
                            have G16 := Lib.hid qG16
                            have G18 := Lib.hid qG18
                            have G19 := Lib.hid qG19
                            clear qG7 qG8 qG11 qG9 qG10 qG12 qG16 qG18 qG19
                            refine' wpAnyH_take (i := 0) ?h1x0g ?hsx0g ?hfx0g ?hrx0g ?hQx0g (Or.inl ⟨?hwx0g, ?hyx0g⟩) hS ?restx0g
                            case h1x0g => (simp only [List.getElem?_toArray, List.getElem?_cons_zero]; rfl)
                            case hsx0g => kernel_rfl
                            case hfx0g => kernel_rfl
                            case hrx0g => kernel_rfl
                            case hQx0g => exact fun _ _ _ h => h
                            case hwx0g => rfl
                            case hyx0g =>
                              intro W hW
                              go_simp
                              try with_reducible rfl
                            simp only [Act.put, List.setIfInBounds_toArray, List.set_cons_succ, List.set_cons_zero]
                            refine' wpAnyH_take (i := 2) ?h1x2g ?hsx2g ?hfx2g ?hrx2g ?hQx2g (Or.inl ⟨?hwx2g, ?hyx2g⟩) hS ?restx2g
                            case h1x2g => (simp only [List.getElem?_toArray, List.getElem?_cons_succ, List.getElem?_cons_zero]; rfl)
                            case hsx2g => kernel_rfl
                            case hfx2g => kernel_rfl
                            case hrx2g => kernel_rfl
                            case hQx2g => exact fun _ _ _ h => h
                            case hwx2g => rfl
                            case hyx2g =>
                              intro W hW
                              go_simp
                              try with_reducible rfl
                            simp only [Act.put, List.setIfInBounds_toArray, List.set_cons_succ, List.set_cons_zero]
                            refine' wpAnyH_take (i := 1) ?h1x1g ?hsx1g ?hfx1g ?hrx1g ?hQx1g (Or.inl ⟨?hwx1g, ?hyx1g⟩) hS ?restx1g
                            case h1x1g => (simp only [List.getElem?_toArray, List.getElem?_cons_succ, List.getElem?_cons_zero]; rfl)
                            case hsx1g => kernel_rfl
                            case hfx1g => kernel_rfl
                            case hrx1g => kernel_rfl
                            case hQx1g => exact fun _ _ _ h => h
                            case hwx1g => rfl
                            case hyx1g =>
                              intro W hW
                              go_simp
                              try with_reducible rfl
                            simp only [Act.put, List.setIfInBounds_toArray, List.set_cons_succ, List.set_cons_zero]
                            refine wpAnyH_ready (rs := [3]) (by kernel_rfl) (by simp) ?_
                            refine' (AllReadyH.cons ?hoc3g (fun K hK => ?stc3g) AllReadyH.nil)
                            case hoc3g => (simp only [List.getElem?_toArray, List.getElem?_cons_succ, List.getElem?_cons_zero]; rfl)
                            go_simp
                            refine (D1.out Wgs G11.out).mono ?_
                            rintro e w' ⟨rfl, rfl⟩
                            go_wp2_with fail
                            refine hK.out _ _ hS (fun hHeld => ?_)
                            clear hK K
                            try simp only [Act.put, List.setIfInBounds_toArray, List.set_cons_succ, List.set_cons_zero]
                            clear hS
                            have hS := hHeld
                            clear hHeld
                            refine' wpAnyH_take (i := 4) ?h1x4gx3 ?hsx4gx3 ?hfx4gx3 ?hrx4gx3 ?hQx4gx3 (Or.inl ⟨?hwx4gx3, ?hyx4gx3⟩) hS ?restx4gx3
                            case h1x4gx3 => (simp only [List.getElem?_toArray, List.getElem?_cons_succ, List.getElem?_cons_zero]; rfl)
                            case hsx4gx3 => kernel_rfl
                            case hfx4gx3 => kernel_rfl
                            case hrx4gx3 => kernel_rfl
                            case hQx4gx3 => exact fun _ _ _ h => h
                            case hwx4gx3 => rfl
                            case hyx4gx3 =>
                              intro W hW
                              go_simp
                              try with_reducible rfl
                            simp only [Act.put, List.setIfInBounds_toArray, List.set_cons_succ, List.set_cons_zero]
                            refine' wpAnyH_take (i := 5) ?h1x5gx3 ?hsx5gx3 ?hfx5gx3 ?hrx5gx3 ?hQx5gx3 (Or.inl ⟨?hwx5gx3, ?hyx5gx3⟩) hS ?restx5gx3
                            case h1x5gx3 => (simp only [List.getElem?_toArray, List.getElem?_cons_succ, List.getElem?_cons_zero]; rfl)
                            case hsx5gx3 => kernel_rfl
                            case hfx5gx3 => kernel_rfl
                            case hrx5gx3 => kernel_rfl
                            case hQx5gx3 => exact fun _ _ _ h => h
                            case hwx5gx3 => rfl
                            case hyx5gx3 =>
                              intro W hW
                              go_simp
                              try with_reducible rfl
                            simp only [Act.put, List.setIfInBounds_toArray, List.set_cons_succ, List.set_cons_zero]
                            refine' wpAnyH_take (i := 6) ?h1x6gx3 ?hsx6gx3 ?hfx6gx3 ?hrx6gx3 ?hQx6gx3 (Or.inl ⟨?hwx6gx3, ?hyx6gx3⟩) hS ?restx6gx3
                            case h1x6gx3 => (simp only [List.getElem?_toArray, List.getElem?_cons_succ, List.getElem?_cons_zero]; rfl)
                            case hsx6gx3 => kernel_rfl
                            case hfx6gx3 => kernel_rfl
                            case hrx6gx3 => kernel_rfl
                            case hQx6gx3 => exact fun _ _ _ h => h
                            case hwx6gx3 => rfl
                            case hyx6gx3 =>
                              intro W hW
                              go_simp
                              try with_reducible rfl
                            simp only [Act.put, List.setIfInBounds_toArray, List.set_cons_succ, List.set_cons_zero]
                            refine' wpAnyH_take (i := 7) ?h1x7gx3 ?hsx7gx3 ?hfx7gx3 ?hrx7gx3 ?hQx7gx3 (Or.inl ⟨?hwx7gx3, ?hyx7gx3⟩) hS ?restx7gx3
                            case h1x7gx3 => (simp only [List.getElem?_toArray, List.getElem?_cons_succ, List.getElem?_cons_zero]; rfl)
                            case hsx7gx3 => kernel_rfl
                            case hfx7gx3 => kernel_rfl
                            case hrx7gx3 => kernel_rfl
                            case hQx7gx3 => exact fun _ _ _ h => h
                            case hwx7gx3 => rfl
                            case hyx7gx3 =>
                              intro W hW
                              go_simp
                              try with_reducible rfl
                            simp only [Act.put, List.setIfInBounds_toArray, List.set_cons_succ, List.set_cons_zero]
                            refine' wpAnyH_take (i := 8) ?h1x8gx3 ?hsx8gx3 ?hfx8gx3 ?hrx8gx3 ?hQx8gx3 (Or.inl ⟨?hwx8gx3, ?hyx8gx3⟩) hS ?restx8gx3
                            case h1x8gx3 => (simp only [List.getElem?_toArray, List.getElem?_cons_succ, List.getElem?_cons_zero]; rfl)
                            case hsx8gx3 => kernel_rfl
                            case hfx8gx3 => kernel_rfl
                            case hrx8gx3 => kernel_rfl
                            case hQx8gx3 => exact fun _ _ _ h => h
                            case hwx8gx3 => rfl
                            case hyx8gx3 =>
                              intro W hW
                              go_simp
                              try with_reducible rfl
                            simp only [Act.put, List.setIfInBounds_toArray, List.set_cons_succ, List.set_cons_zero]
                            refine' wpAnyH_take (i := 9) ?h1x9gx3 ?hsx9gx3 ?hfx9gx3 ?hrx9gx3 ?hQx9gx3 (Or.inr ⟨?hwx9gx3, rfl⟩) hS ?restx9gx3
                            case h1x9gx3 => (simp only [List.getElem?_toArray, List.getElem?_cons_succ, List.getElem?_cons_zero]; rfl)
                            case hsx9gx3 => kernel_rfl
                            case hfx9gx3 => kernel_rfl
                            case hrx9gx3 => kernel_rfl
                            case hQx9gx3 => exact fun _ _ _ h => h
                            case hwx9gx3 => rfl
                            simp only [Act.put, List.setIfInBounds_toArray, List.set_cons_succ, List.set_cons_zero]
                            refine' wpAnyH_take (i := 11) ?h1x11gx3 ?hsx11gx3 ?hfx11gx3 ?hrx11gx3 ?hQx11gx3 (Or.inr ⟨?hwx11gx3, rfl⟩) hS ?restx11gx3
                            case h1x11gx3 => (simp only [List.getElem?_toArray, List.getElem?_cons_succ, List.getElem?_cons_zero]; rfl)
                            case hsx11gx3 => kernel_rfl
                            case hfx11gx3 => kernel_rfl
                            case hrx11gx3 => kernel_rfl
                            case hQx11gx3 => exact fun _ _ _ h => h
                            case hwx11gx3 => rfl
                            simp only [Act.put, List.setIfInBounds_toArray, List.set_cons_succ, List.set_cons_zero]
                            refine' wpAnyH_take (i := 10) ?h1x10gx3 ?hsx10gx3 ?hfx10gx3 ?hrx10gx3 ?hQx10gx3 (Or.inr ⟨?hwx10gx3, rfl⟩) hS ?restx10gx3
                            case h1x10gx3 => (simp only [List.getElem?_toArray, List.getElem?_cons_succ, List.getElem?_cons_zero]; rfl)
                            case hsx10gx3 => kernel_rfl
                            case hfx10gx3 => kernel_rfl
                            case hrx10gx3 => kernel_rfl
                            case hQx10gx3 => exact fun _ _ _ h => h
                            case hwx10gx3 => rfl
                            simp only [Act.put, List.setIfInBounds_toArray, List.set_cons_succ, List.set_cons_zero]
                            refine' wpAnyH_take (i := 12) ?h1x12gx3 ?hsx12gx3 ?hfx12gx3 ?hrx12gx3 ?hQx12gx3 (Or.inr ⟨?hwx12gx3, rfl⟩) hS ?restx12gx3
                            case h1x12gx3 => (simp only [List.getElem?_toArray, List.getElem?_cons_succ, List.getElem?_cons_zero]; rfl)
                            case hsx12gx3 => kernel_rfl
                            case hfx12gx3 => kernel_rfl
                            case hrx12gx3 => kernel_rfl
                            case hQx12gx3 => exact fun _ _ _ h => h
                            case hwx12gx3 => rfl
                            simp only [Act.put, List.setIfInBounds_toArray, List.set_cons_succ, List.set_cons_zero]
                            refine' wpAnyH_take (i := 13) ?h1x13gx3 ?hsx13gx3 ?hfx13gx3 ?hrx13gx3 ?hQx13gx3 (Or.inr ⟨?hwx13gx3, rfl⟩) hS ?restx13gx3
                            case h1x13gx3 => (simp only [List.getElem?_toArray, List.getElem?_cons_succ, List.getElem?_cons_zero]; rfl)
                            case hsx13gx3 => kernel_rfl
                            case hfx13gx3 => kernel_rfl
                            case hrx13gx3 => kernel_rfl
                            case hQx13gx3 => exact fun _ _ _ h => h
                            case hwx13gx3 => rfl
                            simp only [Act.put, List.setIfInBounds_toArray, List.set_cons_succ, List.set_cons_zero]
                            refine' wpAnyH_take (i := 14) ?h1x14gx3 ?hsx14gx3 ?hfx14gx3 ?hrx14gx3 ?hQx14gx3 (Or.inr ⟨?hwx14gx3, rfl⟩) hS ?restx14gx3
                            case h1x14gx3 => (simp only [List.getElem?_toArray, List.getElem?_cons_succ, List.getElem?_cons_zero]; rfl)
                            case hsx14gx3 => kernel_rfl
                            case hfx14gx3 => kernel_rfl
                            case hrx14gx3 => kernel_rfl
                            case hQx14gx3 => exact fun _ _ _ h => h
                            case hwx14gx3 => rfl
                            simp only [Act.put, List.setIfInBounds_toArray, List.set_cons_succ, List.set_cons_zero]
                            refine' wpAnyH_take (i := 15) ?h1x15gx3 ?hsx15gx3 ?hfx15gx3 ?hrx15gx3 ?hQx15gx3 (Or.inr ⟨?hwx15gx3, rfl⟩) hS ?restx15gx3
                            case h1x15gx3 => (simp only [List.getElem?_toArray, List.getElem?_cons_succ, List.getElem?_cons_zero]; rfl)
                            case hsx15gx3 => kernel_rfl
                            case hfx15gx3 => kernel_rfl
                            case hrx15gx3 => kernel_rfl
                            case hQx15gx3 => exact fun _ _ _ h => h
                            case hwx15gx3 => rfl
                            simp only [Act.put, List.setIfInBounds_toArray, List.set_cons_succ, List.set_cons_zero]
                            refine' wpAnyH_take (i := 18) ?h1x18gx3 ?hsx18gx3 ?hfx18gx3 ?hrx18gx3 ?hQx18gx3 (Or.inr ⟨?hwx18gx3, rfl⟩) hS ?restx18gx3
                            case h1x18gx3 => (simp only [List.getElem?_toArray, List.getElem?_cons_succ, List.getElem?_cons_zero]; rfl)
                            case hsx18gx3 => kernel_rfl
                            case hfx18gx3 => kernel_rfl
                            case hrx18gx3 => kernel_rfl
                            case hQx18gx3 => exact fun _ _ _ h => h
                            case hwx18gx3 => rfl
                            simp only [Act.put, List.setIfInBounds_toArray, List.set_cons_succ, List.set_cons_zero]
                            refine' wpAnyH_take (i := 16) ?h1x16gx3 ?hsx16gx3 ?hfx16gx3 ?hrx16gx3 ?hQx16gx3 (Or.inr ⟨?hwx16gx3, rfl⟩) hS ?restx16gx3
                            case h1x16gx3 => (simp only [List.getElem?_toArray, List.getElem?_cons_succ, List.getElem?_cons_zero]; rfl)
                            case hsx16gx3 => kernel_rfl
                            case hfx16gx3 => kernel_rfl
                            case hrx16gx3 => kernel_rfl
                            case hQx16gx3 => exact fun _ _ _ h => h
                            case hwx16gx3 => rfl
                            simp only [Act.put, List.setIfInBounds_toArray, List.set_cons_succ, List.set_cons_zero]
                            refine' wpAnyH_take (i := 19) ?h1x19gx3 ?hsx19gx3 ?hfx19gx3 ?hrx19gx3 ?hQx19gx3 (Or.inr ⟨?hwx19gx3, rfl⟩) hS ?restx19gx3
                            case h1x19gx3 => (simp only [List.getElem?_toArray, List.getElem?_cons_succ, List.getElem?_cons_zero]; rfl)
                            case hsx19gx3 => kernel_rfl
                            case hfx19gx3 => kernel_rfl
                            case hrx19gx3 => kernel_rfl
                            case hQx19gx3 => exact fun _ _ _ h => h
                            case hwx19gx3 => rfl
                            simp only [Act.put, List.setIfInBounds_toArray, List.set_cons_succ, List.set_cons_zero]
                            refine' wpAnyH_take (i := 17) ?h1x17gx3 ?hsx17gx3 ?hfx17gx3 ?hrx17gx3 ?hQx17gx3 (Or.inr ⟨?hwx17gx3, rfl⟩) hS ?restx17gx3
                            case h1x17gx3 => (simp only [List.getElem?_toArray, List.getElem?_cons_succ, List.getElem?_cons_zero]; rfl)
                            case hsx17gx3 => kernel_rfl
                            case hfx17gx3 => kernel_rfl
                            case hrx17gx3 => kernel_rfl
                            case hQx17gx3 => exact fun _ _ _ h => h
                            case hwx17gx3 => rfl
                            simp only [Act.put, List.setIfInBounds_toArray, List.set_cons_succ, List.set_cons_zero]
                            refine' wpAnyH_take (i := 20) ?h1x20gx3 ?hsx20gx3 ?hfx20gx3 ?hrx20gx3 ?hQx20gx3 (Or.inr ⟨?hwx20gx3, rfl⟩) hS ?restx20gx3
                            case h1x20gx3 => (simp only [List.getElem?_toArray, List.getElem?_cons_succ, List.getElem?_cons_zero]; rfl)
                            case hsx20gx3 => kernel_rfl
                            case hfx20gx3 => kernel_rfl
                            case hrx20gx3 => kernel_rfl
                            case hQx20gx3 => exact fun _ _ _ h => h
                            case hwx20gx3 => rfl
                            simp only [Act.put, List.setIfInBounds_toArray, List.set_cons_succ, List.set_cons_zero]
                            refine' wpAnyH_take (i := 21) ?h1x21gx3 ?hsx21gx3 ?hfx21gx3 ?hrx21gx3 ?hQx21gx3 (Or.inr ⟨?hwx21gx3, rfl⟩) hS ?restx21gx3
                            case h1x21gx3 => (simp only [List.getElem?_toArray, List.getElem?_cons_succ, List.getElem?_cons_zero]; rfl)
                            case hsx21gx3 => kernel_rfl
                            case hfx21gx3 => kernel_rfl
                            case hrx21gx3 => kernel_rfl
                            case hQx21gx3 => exact fun _ _ _ h => h
                            case hwx21gx3 => rfl
                            simp only [Act.put, List.setIfInBounds_toArray, List.set_cons_succ, List.set_cons_zero]
                            refine' wpAnyH_take (i := 22) ?h1x22gx3 ?hsx22gx3 ?hfx22gx3 ?hrx22gx3 ?hQx22gx3 (Or.inl ⟨?hwx22gx3, ?hyx22gx3⟩) hS ?restx22gx3
                            case h1x22gx3 => (simp only [List.getElem?_toArray, List.getElem?_cons_succ, List.getElem?_cons_zero]; rfl)
                            case hsx22gx3 => kernel_rfl
                            case hfx22gx3 => kernel_rfl
                            case hrx22gx3 => kernel_rfl
                            case hQx22gx3 => exact fun _ _ _ h => h
                            case hwx22gx3 => rfl
                            case hyx22gx3 =>
                              intro W hW
                              go_simp
                              try with_reducible rfl
                            simp only [Act.put, List.setIfInBounds_toArray, List.set_cons_succ, List.set_cons_zero]
                            refine' wpAnyH_take (i := 23) ?h1x23gx3 ?hsx23gx3 ?hfx23gx3 ?hrx23gx3 ?hQx23gx3 (Or.inl ⟨?hwx23gx3, ?hyx23gx3⟩) hS ?restx23gx3
                            case h1x23gx3 => (simp only [List.getElem?_toArray, List.getElem?_cons_succ, List.getElem?_cons_zero]; rfl)
                            case hsx23gx3 => kernel_rfl
                            case hfx23gx3 => kernel_rfl
                            case hrx23gx3 => kernel_rfl
                            case hQx23gx3 => exact fun _ _ _ h => h
                            case hwx23gx3 => rfl
                            case hyx23gx3 =>
                              intro W hW
                              go_simp
                              try with_reducible rfl
                            simp only [Act.put, List.setIfInBounds_toArray, List.set_cons_succ, List.set_cons_zero]
                            refine' wpAnyH_take (i := 24) ?h1x24gx3 ?hsx24gx3 ?hfx24gx3 ?hrx24gx3 ?hQx24gx3 (Or.inl ⟨?hwx24gx3, ?hyx24gx3⟩) hS ?restx24gx3
                            case h1x24gx3 => (simp only [List.getElem?_toArray, List.getElem?_cons_succ, List.getElem?_cons_zero]; rfl)
                            case hsx24gx3 => kernel_rfl
                            case hfx24gx3 => kernel_rfl
                            case hrx24gx3 => kernel_rfl
                            case hQx24gx3 => exact fun _ _ _ h => h
                            case hwx24gx3 => rfl
                            case hyx24gx3 =>
                              intro W hW
                              go_simp
                              try with_reducible rfl
                            simp only [Act.put, List.setIfInBounds_toArray, List.set_cons_succ, List.set_cons_zero]
                            refine' wpAnyH_take (i := 25) ?h1x25gx3 ?hsx25gx3 ?hfx25gx3 ?hrx25gx3 ?hQx25gx3 (Or.inl ⟨?hwx25gx3, ?hyx25gx3⟩) hS ?restx25gx3
                            case h1x25gx3 => (simp only [List.getElem?_toArray, List.getElem?_cons_succ, List.getElem?_cons_zero]; rfl)
                            case hsx25gx3 => kernel_rfl
                            case hfx25gx3 => kernel_rfl
                            case hrx25gx3 => kernel_rfl
                            case hQx25gx3 => exact fun _ _ _ h => h
                            case hwx25gx3 => rfl
                            case hyx25gx3 =>
                              intro W hW
                              go_simp
                              try with_reducible rfl
                            simp only [Act.put, List.setIfInBounds_toArray, List.set_cons_succ, List.set_cons_zero]
                            refine' wpAnyH_take (i := 26) ?h1x26gx3 ?hsx26gx3 ?hfx26gx3 ?hrx26gx3 ?hQx26gx3 (Or.inl ⟨?hwx26gx3, ?hyx26gx3⟩) hS ?restx26gx3
                            case h1x26gx3 => (simp only [List.getElem?_toArray, List.getElem?_cons_succ, List.getElem?_cons_zero]; rfl)
                            case hsx26gx3 => kernel_rfl
                            case hfx26gx3 => kernel_rfl
                            case hrx26gx3 => kernel_rfl
                            case hQx26gx3 => exact fun _ _ _ h => h
                            case hwx26gx3 => rfl
                            case hyx26gx3 =>
                              intro W hW
                              go_simp
                              try with_reducible rfl
                            simp only [Act.put, List.setIfInBounds_toArray, List.set_cons_succ, List.set_cons_zero]
                            refine' wpAnyH_take (i := 27) ?h1x27gx3 ?hsx27gx3 ?hfx27gx3 ?hrx27gx3 ?hQx27gx3 (Or.inl ⟨?hwx27gx3, ?hyx27gx3⟩) hS ?restx27gx3
                            case h1x27gx3 => (simp only [List.getElem?_toArray, List.getElem?_cons_succ, List.getElem?_cons_zero]; rfl)
                            case hsx27gx3 => kernel_rfl
                            case hfx27gx3 => kernel_rfl
                            case hrx27gx3 => kernel_rfl
                            case hQx27gx3 => exact fun _ _ _ h => h
                            case hwx27gx3 => rfl
                            case hyx27gx3 =>
                              intro W hW
                              go_simp
                              try with_reducible rfl
                            simp only [Act.put, List.setIfInBounds_toArray, List.set_cons_succ, List.set_cons_zero]
                            refine' wpAnyH_take (i := 28) ?h1x28gx3 ?hsx28gx3 ?hfx28gx3 ?hrx28gx3 ?hQx28gx3 (Or.inl ⟨?hwx28gx3, ?hyx28gx3⟩) hS ?restx28gx3
                            case h1x28gx3 => (simp only [List.getElem?_toArray, List.getElem?_cons_succ, List.getElem?_cons_zero]; rfl)
                            case hsx28gx3 => kernel_rfl
                            case hfx28gx3 => kernel_rfl
                            case hrx28gx3 => kernel_rfl
                            case hQx28gx3 => exact fun _ _ _ h => h
                            case hwx28gx3 => rfl
                            case hyx28gx3 =>
                              intro W hW
                              go_simp
                              try with_reducible rfl
                            simp only [Act.put, List.setIfInBounds_toArray, List.set_cons_succ, List.set_cons_zero]
                            refine' wpAnyH_take (i := 29) ?h1x29gx3 ?hsx29gx3 ?hfx29gx3 ?hrx29gx3 ?hQx29gx3 (Or.inl ⟨?hwx29gx3, ?hyx29gx3⟩) hS ?restx29gx3
                            case h1x29gx3 => (simp only [List.getElem?_toArray, List.getElem?_cons_succ, List.getElem?_cons_zero]; rfl)
                            case hsx29gx3 => kernel_rfl
                            case hfx29gx3 => kernel_rfl
                            case hrx29gx3 => kernel_rfl
                            case hQx29gx3 => exact fun _ _ _ h => h
                            case hwx29gx3 => rfl
                            case hyx29gx3 =>
                              intro W hW
                              go_simp
                              try with_reducible rfl
                            simp only [Act.put, List.setIfInBounds_toArray, List.set_cons_succ, List.set_cons_zero]
                            refine' wpAnyH_take (i := 30) ?h1x30gx3 ?hsx30gx3 ?hfx30gx3 ?hrx30gx3 ?hQx30gx3 (Or.inl ⟨?hwx30gx3, ?hyx30gx3⟩) hS ?restx30gx3
                            case h1x30gx3 => (simp only [List.getElem?_toArray, List.getElem?_cons_succ, List.getElem?_cons_zero]; rfl)
                            case hsx30gx3 => kernel_rfl
                            case hfx30gx3 => kernel_rfl
                            case hrx30gx3 => kernel_rfl
                            case hQx30gx3 => exact fun _ _ _ h => h
                            case hwx30gx3 => rfl
                            case hyx30gx3 =>
                              intro W hW
                              go_simp
                              try with_reducible rfl
                            simp only [Act.put, List.setIfInBounds_toArray, List.set_cons_succ, List.set_cons_zero]
                            refine' wpAnyH_take (i := 31) ?h1x31gx3 ?hsx31gx3 ?hfx31gx3 ?hrx31gx3 ?hQx31gx3 (yieldsIf_load_at ?hwx31gx3 30 (.tmp 16) ?hopx31gx3 q16 0 rfl (vcells 0 0) _ (fun W hW => range_row hW.2) Try.underlying30 rfl ?hix31gx3) hS ?restx31gx3
                            case h1x31gx3 => (simp only [List.getElem?_toArray, List.getElem?_cons_succ, List.getElem?_cons_zero]; rfl)
                            case hopx31gx3 => rfl
                            case hsx31gx3 => kernel_rfl
                            case hfx31gx3 => kernel_rfl
                            case hrx31gx3 => kernel_rfl
                            case hQx31gx3 => exact fun _ _ _ h => h
                            case hwx31gx3 => rfl
                            case hix31gx3 => exact IXp.out
                            simp only [Act.put, List.setIfInBounds_toArray, List.set_cons_succ, List.set_cons_zero]
                            refine' wpAnyH_take (i := 32) ?h1x32gx3 ?hsx32gx3 ?hfx32gx3 ?hrx32gx3 ?hQx32gx3 (yieldsIf_build ?hwx32gx3 30 #[] ?hopx32gx3 #[] ?hvx32gx3 b30'.out) hS ?restx32gx3
                            case h1x32gx3 => (simp only [List.getElem?_toArray, List.getElem?_cons_succ, List.getElem?_cons_zero]; rfl)
                            case hopx32gx3 => rfl
                            case hvx32gx3 => kernel_rfl
                            case hsx32gx3 => kernel_rfl
                            case hfx32gx3 => kernel_rfl
                            case hrx32gx3 => kernel_rfl
                            case hQx32gx3 => exact fun _ _ _ h => h
                            case hwx32gx3 => rfl
                            simp only [Act.put, List.setIfInBounds_toArray, List.set_cons_succ, List.set_cons_zero]
                            refine' wpAnyH_take (i := 33) ?h1x33gx3 ?hsx33gx3 ?hfx33gx3 ?hrx33gx3 ?hQx33gx3 (Or.inl ⟨?hwx33gx3, ?hyx33gx3⟩) hS ?restx33gx3
                            case h1x33gx3 => (simp only [List.getElem?_toArray, List.getElem?_cons_succ, List.getElem?_cons_zero]; rfl)
                            case hsx33gx3 => kernel_rfl
                            case hfx33gx3 => kernel_rfl
                            case hrx33gx3 => kernel_rfl
                            case hQx33gx3 => exact fun _ _ _ h => h
                            case hwx33gx3 => rfl
                            case hyx33gx3 =>
                              intro W hW
                              have dd := EQ0.out
                              go_simp
                              try with_reducible rfl
                            simp only [Act.put, List.setIfInBounds_toArray, List.set_cons_succ, List.set_cons_zero]
                            refine' wpAnyH_take (i := 34) ?h1x34gx3 ?hsx34gx3 ?hfx34gx3 ?hrx34gx3 ?hQx34gx3 (Or.inl ⟨?hwx34gx3, ?hyx34gx3⟩) hS ?restx34gx3
                            case h1x34gx3 => (simp only [List.getElem?_toArray, List.getElem?_cons_succ, List.getElem?_cons_zero]; rfl)
                            case hsx34gx3 => kernel_rfl
                            case hfx34gx3 => kernel_rfl
                            case hrx34gx3 => kernel_rfl
                            case hQx34gx3 => exact fun _ _ _ h => h
                            case hwx34gx3 => rfl
                            case hyx34gx3 =>
                              intro W hW
                              go_simp
                              try with_reducible rfl
                            simp only [Act.put, List.setIfInBounds_toArray, List.set_cons_succ, List.set_cons_zero]
                            refine' wpAnyH_take (i := 35) ?h1x35gx3 ?hsx35gx3 ?hfx35gx3 ?hrx35gx3 ?hQx35gx3 (Or.inl ⟨?hwx35gx3, ?hyx35gx3⟩) hS ?restx35gx3
                            case h1x35gx3 => (simp only [List.getElem?_toArray, List.getElem?_cons_succ, List.getElem?_cons_zero]; rfl)
                            case hsx35gx3 => kernel_rfl
                            case hfx35gx3 => kernel_rfl
                            case hrx35gx3 => kernel_rfl
                            case hQx35gx3 => exact fun _ _ _ h => h
                            case hwx35gx3 => rfl
                            case hyx35gx3 =>
                              intro W hW
                              go_simp
                              try with_reducible rfl
                            simp only [Act.put, List.setIfInBounds_toArray, List.set_cons_succ, List.set_cons_zero]
                            refine' wpAnyH_take (i := 36) ?h1x36gx3 ?hsx36gx3 ?hfx36gx3 ?hrx36gx3 ?hQx36gx3 (Or.inl ⟨?hwx36gx3, ?hyx36gx3⟩) hS ?restx36gx3
                            case h1x36gx3 => (simp only [List.getElem?_toArray, List.getElem?_cons_succ, List.getElem?_cons_zero]; rfl)
                            case hsx36gx3 => kernel_rfl
                            case hfx36gx3 => kernel_rfl
                            case hrx36gx3 => kernel_rfl
                            case hQx36gx3 => exact fun _ _ _ h => h
                            case hwx36gx3 => rfl
                            case hyx36gx3 =>
                              intro W hW
                              go_simp
                              try with_reducible rfl
                            simp only [Act.put, List.setIfInBounds_toArray, List.set_cons_succ, List.set_cons_zero]
                            refine wpAnyH_done (by kernel_rfl) ?_ _
                            go_wp2_with fail
                            go_meet
                            exact ⟨rfl, hS.1, G7.out, G8.out, G11.out, G9.out, G10.out, G12.out, G16.out, G18.out, G19.out⟩
                      case rest =>
                        as_aux_lemma =>
                          clear BE G7 G8 G11 G9 G10 G12 G16 G18 G19
                          obtain ⟨rfl, hbe, rG7, rG8, rG11, rG9, rG10, rG12, rG16, rG18, rG19⟩ := hcut
                          have BE := Lib.hid hbe
                          have G7 : Hid (_ = some (Obj.cells (vcells vn vb) 30 (0, 0))) := rG7
                          have G8 : Hid (_ = some (Obj.cells (kcells ks kz kt) 37 (0, 0))) := rG8
                          have G11 : Hid (_ = some (Obj.cells (bcells v) 38 (0, 0))) := rG11
                          have G9 : Hid (_ = some (Obj.cells (bcells L9) 38 (0, 0))) := rG9
                          have G10 : Hid (_ = some (Obj.cells (bcells L10) 38 (0, 0))) := rG10
                          have G12 : Hid (_ = some (Obj.cells (bcells L12) 38 (0, 0))) := rG12
                          have G16 : Hid (_ = some (Obj.cells (vcells pn pb) 30 (0, 0))) := rG16
                          have G18 : Hid (_ = some (Obj.cells K18 37 (0, 0))) := rG18
                          have G19 : Hid (_ = some (Obj.cells (bcells v) 38 (0, 0))) := rG19
                          clear hbe rG7 rG8 rG11 rG9 rG10 rG12 rG16 rG18 rG19
                          clear HV
                          have eq : ∀ w : World, (Op.equalIn 10000 38 (.agg (bcells v)) (.agg (bcells v))).run Try.prog w = .ok true w := fun W => by rw [eq38 v v Bv.out Bv.out Lv.out Lv.out]; simp
                          go_wp2_with fail
                          refine (alive23 _).mono ?_
                          rintro e w' ⟨rfl, hb⟩
                          have G7' := Lib.hid ((hb.block _ (blk_lt G7.out)).trans G7.out)
                          have G8' := Lib.hid ((hb.block _ (blk_lt G8.out)).trans G8.out)
                          have G11' := Lib.hid ((hb.block _ (blk_lt G11.out)).trans G11.out)
                          have G9' := Lib.hid ((hb.block _ (blk_lt G9.out)).trans G9.out)
                          have G10' := Lib.hid ((hb.block _ (blk_lt G10.out)).trans G10.out)
                          have G12' := Lib.hid ((hb.block _ (blk_lt G12.out)).trans G12.out)
                          have G16' := Lib.hid ((hb.block _ (blk_lt G16.out)).trans G16.out)
                          have G18' := Lib.hid ((hb.block _ (blk_lt G18.out)).trans G18.out)
                          have G19' := Lib.hid ((hb.block _ (blk_lt G19.out)).trans G19.out)
                          have BE' := Lib.hid (BE.out.trans (hb.mono BE.out.size))
                          clear hb BE G7 G8 G11 G9 G10 G12 G16 G18 G19
                          have G7 := Lib.hid G7'.out
                          have G8 := Lib.hid G8'.out
                          have G11 := Lib.hid G11'.out
                          have G9 := Lib.hid G9'.out
                          have G10 := Lib.hid G10'.out
                          have G12 := Lib.hid G12'.out
                          have G16 := Lib.hid G16'.out
                          have G18 := Lib.hid G18'.out
                          have G19 := Lib.hid G19'.out
                          have BE := Lib.hid BE'.out
                          clear BE' G7' G8' G11' G9' G10' G12' G16' G18' G19'
                          go_wp2_with (first
                            | (refine wpList_load_met' rfl 38 (.tmp 19) rfl (q19) rfl 38 (bcells v) (0, 0) _ G19.out Try.underlying38 ⟨_, _, rfl⟩ Iv.out ?_)
                            | (refine wpList_load_met' rfl 38 (.tmp 7) rfl (w.heap.size + 1 + 1) rfl 38 (bcells v) (0, 0) _ G11.out Try.underlying38 ⟨_, _, rfl⟩ Iv.out ?_))
                          go_ret
                          exact ⟨rfl, BE.out⟩
end Go.Proofs.Ytbhkhkiidaemcaa.entryVolumes
