/-
  For all roots, tenants and values the law EntryTenants of package casematelaw23 returns true: roots and tenants have their values, or may not be; and any value is one's, or not. Condition: none.
-/
import Derived.Test.YtbhkhkiidaemcaaEU
import Derived.Test.YtbhkhkiidaemcaaEntryBackB
namespace Go.Proofs.Ytbhkhkiidaemcaa.entryTenants
open Go.ChangeShapes Go.WideShapes Go.ChangeAt Go.RowKit
def Ret (f : FuncId) (args : Array Value) (r : Value) : Prop := ∀ W : World, Calls Try.prog f args W fun e w' => e = .returned r ∧ Below W.heap.size W w'
def Iz (T : TypeId) (A : Array Value) : Prop := (Try.prog.info? T).map (·.size) = some A.size
def On (A : Array Value) : Prop := A.all (·.oneCell') = true
/-- A call's own text. -/
def SL (w : World) (m : Nat) (L : List Int) (e : Ending) (w' : World) : Prop := ∃ x c, e = .returned (.slice x m c) ∧ Sees w' (.slice x m c) L ∧ Below w.heap.size w w'
def Txt (f : FuncId) (args : Array Value) (m : Nat) (L : List Int) : Prop := ∀ W : World, Calls Try.prog f args W (SL W m L)
def Row (w : World) (g t : Nat) (A : Array Value) : Prop := w.heap[g]? = some (.cells A t (0, 0))
theorem wrap_of {x : Int} (h0 : 0 ≤ x) (h1 : x ≤ 4294967295) : IntKind.u64.wrap x = x := by
  rw [IntKind.wrap_u64]; omega
theorem sl_bytes (v : Int) (n : Nat) (hn : n ≤ 8) (h0 : 0 ≤ v) (h1 : v ≤ 18446744073709551615) : Txt 19 #[.int .u64 v, .int .i64 n] n (be n v) := fun W => by
  refine (bytesC v n hn h0 h1 W).mono ?_
  rintro e w' ⟨x, c, rfl, ho, hb⟩
  rw [be_len] at ho ⊢
  exact ⟨x, c, rfl, ho.sees, hb⟩
theorem sl_full (g n : Nat) (vs : List Value) (P : List (List Int)) (V : List Int) (hV : fv P = V) (hn : n = P.length) (hn9 : n ≤ 100) (hs : P.flatten.length ≤ 44) (w : World) (hg : w.heap[g]? = some (.cells vs.toArray 43 (0, 0))) (hA : AllSees w vs P) :
    Calls Try.prog 18 #[.slice (some ⟨g, 0, none⟩) n n] w (SL w 44 V) := by
  subst hV
  refine (full g n vs P hn hn9 hs w hg hA).mono ?_
  rintro e w' ⟨x, c, rfl, ho, hb⟩
  rw [fv_len hs] at ho ⊢
  exact ⟨x, c, rfl, ho.sees, hb⟩
theorem wrap65 {x : Int} (h0 : 0 ≤ x) (h1 : x ≤ 65535) : IntKind.u64.wrap x = x := wrap_of h0 (Int.le_trans h1 (by decide))
theorem wrapi {x : Int} (h0 : 0 ≤ x) (h1 : x ≤ 255) : IntKind.i64.wrap x = x := IntWalk.i64_in _ (by omega)
def WP (w : World) (e : Ending) (w' : World) : Prop := e = .returned (.bool true) ∧ Below w.heap.size w w'
set_option maxRecDepth 100000 in
set_option maxHeartbeats 16000000 in
theorem core (h : Bool) (s r q c e8 e10 e15 e17 ps qr qq qc : Int) (ph mo mn : Bool) (z tz v L7 L9 pz qz : List Int)
    (K26 : Hid (Ret 26 #[.agg (ocells h s z)] (.tuple #[.agg (bcells L7), .int .i64 e8]))) (K27 : Hid (Ret 27 #[.agg (ncells tz r q c)] (.tuple #[.agg (bcells L9), .int .i64 e10]))) (K28 : Hid (Ret 28 #[.agg (bcells v)] (.tuple #[.agg (ocells ph ps pz), .int .i64 e15]))) (K29 : Hid (Ret 29 #[.agg (bcells v)] (.tuple #[.agg (ncells qz qr qq qc), .int .i64 e17]))) (MO : Hid (decide (oMay h s z) = mo)) (MN : Hid (decide (nMay r q c) = mn)) (HT7 : Hid (mo = true → e8 = 0 ∧ fv [be 1 (b2i h), be 4 s, z] = L7)) (HF7 : Hid (mo = false → e8 = 3 ∧ L7 = zs 44)) (HT9 : Hid (mn = true → e10 = 0 ∧ fv [tz, be 2 r, be 2 q, be 1 c] = L9)) (HF9 : Hid (mn = false → e10 = 3 ∧ L9 = zs 44)) (T4 : Hid (Txt 19 #[.int .u64 s, .int .i64 4] 4 (be 4 s))) (T5 : Hid (mn = true → Txt 19 #[.int .u64 r, .int .i64 2] 2 (be 2 r) ∧ Txt 19 #[.int .u64 q, .int .i64 2] 2 (be 2 q) ∧ Txt 19 #[.int .u64 c, .int .i64 1] 1 (be 1 c))) (Lv : Hid (v.length = 44)) (Bv : Hid (Byt v)) (Lz : Hid (z.length = 32)) (Bz : Hid (Byt z)) (Ltz : Hid (tz.length = 32)) (Btz : Hid (Byt tz)) (Lpz : Hid (pz.length = 32)) (Bpz : Hid (Byt pz)) (Lqz : Hid (qz.length = 32)) (Bqz : Hid (Byt qz)) (Rs : Hid (0 ≤ s ∧ s ≤ 4294967295)) (Rps : Hid (0 ≤ ps ∧ ps ≤ 4294967295)) (Rqr : Hid (0 ≤ qr ∧ qr ≤ 65535)) (Rqq : Hid (0 ≤ qq ∧ qq ≤ 65535)) (HR : Hid ((e15 = 0 ∧ iR v = true ∧ (nth v 0 == 1) = ph ∧ numI (pt v 1 4) = ps ∧ pt v 5 32 = pz) ∨ (e15 = 3 ∧ iR v = false ∧ ph = false ∧ ps = 0 ∧ pz = zs 32))) (HN : Hid ((e17 = 0 ∧ iT v = true ∧ pt v 0 32 = qz ∧ numI (pt v 32 2) = qr ∧ numI (pt v 34 2) = qq ∧ nth v 36 = qc) ∨ (e17 = 3 ∧ iT v = false ∧ qz = zs 32 ∧ qr = 0 ∧ qq = 0 ∧ qc = 0))) (NL7 : Hid (L7.length = 44)) (YL7 : Hid (Byt L7)) (NL9 : Hid (L9.length = 44)) (YL9 : Hid (Byt L9)) (w : World) :
    Calls Try.prog 5 #[.agg (ocells h s z), .agg (ncells tz r q c), .agg (bcells v)] w (WP w) := by
  have zz38 := z38
  have zz55 := z55
  have zz57 := z57
  have b38' := Lib.hid b38
  have b35' := Lib.hid bld35
  have b55' : Hid (∀ w : World, (Instr.build 55 #[]).run Try.prog w = .ok (.agg (ocells false 0 (zs 32))) w) := fun w => by kernel_rfl
  have b57' : Hid (∀ w : World, (Instr.build 57 #[]).run Try.prog w = .ok (.agg (ncells (zs 32) 0 0 0)) w) := fun w => by kernel_rfl
  have IL7 := Lib.hid (i38 NL7.out)
  have IL9 := Lib.hid (i38 NL9.out)
  have Iv := Lib.hid (i38 Lv.out)
  have SL7 := Lib.hid (bcells_sz (show (zs 44).length = L7.length by rw [NL7.out, zs_len]))
  have SL9 := Lib.hid (bcells_sz (show (zs 44).length = L9.length by rw [NL9.out, zs_len]))
  have OL7 := Lib.hid (one_cells L7)
  have OL9 := Lib.hid (one_cells L9)
  have IX3 : Hid ((Try.prog.info? 55).map (·.size) = some (ocells h s z).size) := i55 Lz.out
  have IX4 : Hid ((Try.prog.info? 57).map (·.size) = some (ncells tz r q c).size) := i57 Ltz.out
  have IXp : Hid ((Try.prog.info? 55).map (·.size) = some (ocells ph ps pz).size) := i55 Lpz.out
  have IXq : Hid ((Try.prog.info? 57).map (·.size) = some (ncells qz qr qq qc).size) := i57 Lqz.out
  have SXp : Hid ((ocells false 0 (zs 32)).size = (ocells ph ps pz).size) := by show _ = _; simp [ocells, rcells, Lpz.out, zs_len]
  have SXq : Hid ((ncells (zs 32) 0 0 0).size = (ncells qz qr qq qc).size) := by show _ = _; simp [ncells, Lqz.out, zs_len]
  have OXp := Lib.hid (one_o ph ps pz)
  have OXq := Lib.hid (one_n qz qr qq qc)
  obtain ⟨W0, hW0⟩ : ∃ W0, W0 = ((w.alloc (.cells (ocells h s z) 55)).alloc (.cells (ncells tz r q c) 57)).alloc (.cells (bcells v) 38) := ⟨_, rfl⟩
  have BE : Hid (Below w.heap.size w W0) := by rw [hW0]; exact (((Below.refl _ _).alloc (Nat.le_refl _) _).alloc (by simp) _).alloc (by simp <;> omega) _
  have G3 : Hid (W0.heap[w.heap.size]? = some (.cells (ocells h s z) 55 (0, 0))) := by
    show _ = _
    rw [hW0, Below.heap_alloc _ _ _ (by simp <;> omega), Below.heap_alloc _ _ _ (by simp)]; exact heap_alloc_new w _
  have G4 : Hid (W0.heap[w.heap.size + 1]? = some (.cells (ncells tz r q c) 57 (0, 0))) := by
    show _ = _
    rw [hW0, Below.heap_alloc _ _ _ (by simp <;> omega)]; exact heap_alloc2_new w _ _
  have G5 : Hid (W0.heap[w.heap.size + 1 + 1]? = some (.cells (bcells v) 38 (0, 0))) := by
    show _ = _
    have := heap_alloc_new ((w.alloc (.cells (ocells h s z) 55)).alloc (.cells (ncells tz r q c) 57)) (.cells (bcells v) 38)
    rw [hW0]
    simpa using this
  have HW0 := Lib.hid hW0
  clear hW0
  have C3 : Hid (∀ W : World, W.heap[w.heap.size]? = some (.cells (ocells h s z) 55 (0, 0)) → W.cell? ⟨w.heap.size, 0, none⟩ = some (.bool h) ∧ W.cell? ⟨w.heap.size, 1, none⟩ = some (.int .u32 s) ∧ Sees W (.slice (some ⟨w.heap.size, 2, none⟩) 32 32) z) := fun W e => ⟨oc0 e, oc1 e, osum Bz.out Lz.out e⟩
  have C4 : Hid (∀ W : World, W.heap[w.heap.size + 1]? = some (.cells (ncells tz r q c) 57 (0, 0)) → (W.cell? ⟨w.heap.size + 1, 32, none⟩ = some (.int .i64 r) ∧ W.cell? ⟨w.heap.size + 1, 33, none⟩ = some (.int .i64 q) ∧ W.cell? ⟨w.heap.size + 1, 34, none⟩ = some (.int .i64 c)) ∧ Sees W (.slice (some ⟨w.heap.size + 1, 0, none⟩) 32 32) tz) := fun W e => ⟨nc Ltz.out e, nsum Btz.out Ltz.out e⟩
  have SS : Hid (∀ (W : World) (q : Nat) (L : List Int), Byt L → L.length = 44 → W.heap[q]? = some (.cells (bcells L) 38 (0, 0)) → Sees W (.slice (some ⟨q, 0, none⟩) 44 44) L) := fun W q L h1 h2 h3 => sees_rowT W q 38 L h1 (by rw [h2]; decide) h3 44 h2.symm
  go_enter Try.func5, Try.ntmps5
  go_upto_region 1 with (fail)
  rw [← HW0.out]
  go_wp2_with (refine wpList_load_row rfl 55 (.tmp 3) rfl (w.heap.size) rfl 55 (ocells h s z) (0, 0) _ G3.out Try.underlying55 rfl IX3.out ?_)
  refine (K26.out _).mono ?_
  rintro e u1 ⟨rfl, hb⟩
  have G3' := Lib.hid ((hb.block _ (blk_lt G3.out)).trans G3.out)
  have G4' := Lib.hid ((hb.block _ (blk_lt G4.out)).trans G4.out)
  have G5' := Lib.hid ((hb.block _ (blk_lt G5.out)).trans G5.out)
  have BE' := Lib.hid (BE.out.trans (hb.mono BE.out.size))
  clear hb BE G3 G4 G5
  have G3 := Lib.hid G3'.out
  have G4 := Lib.hid G4'.out
  have G5 := Lib.hid G5'.out
  have BE := Lib.hid BE'.out
  clear BE' G3' G4' G5'
  have GN := Lib.hid (heap_alloc_new u1 (.cells (bcells (zs 44)) 38))
  have RN := Lib.hid (alloc_setRowT u1 (bcells (zs 44)) (bcells L7) 38 _ rfl)
  have hal : Below u1.heap.size u1 (u1.alloc (.cells (bcells L7) 38)) := (Below.refl _ _).alloc (Nat.le_refl _) _
  have G7 := Lib.hid (heap_alloc_new u1 (.cells (bcells L7) 38))
  have n7G3 := blk_lt G3.out
  have n7G4 := blk_lt G4.out
  have n7G5 := blk_lt G5.out
  have G3' := Lib.hid ((hal.block _ (blk_lt G3.out)).trans G3.out)
  have G4' := Lib.hid ((hal.block _ (blk_lt G4.out)).trans G4.out)
  have G5' := Lib.hid ((hal.block _ (blk_lt G5.out)).trans G5.out)
  have BE' := Lib.hid (BE.out.trans (hal.mono BE.out.size))
  clear hal BE G3 G4 G5
  have G3 := Lib.hid G3'.out
  have G4 := Lib.hid G4'.out
  have G5 := Lib.hid G5'.out
  have BE := Lib.hid BE'.out
  clear BE' G3' G4' G5'
  go_upto_region 2 with (refine wpList_store_row rfl 38 (.tmp 7) (.tmp 21) rfl u1.heap.size (bcells L7) rfl rfl 38 (bcells (zs 44)) GN.out IL7.out SL7.out OL7.out ?_)
  rw [RN.out]
  try simp only [Act.put]
  generalize u1.alloc (.cells (bcells L7) 38) = u2 at *
  generalize u1.heap.size = q7 at *
  clear GN RN
  go_wp2_with (refine wpList_load_row rfl 57 (.tmp 4) rfl (w.heap.size + 1) rfl 57 (ncells tz r q c) (0, 0) _ G4.out Try.underlying57 rfl IX4.out ?_)
  refine (K27.out _).mono ?_
  rintro e u3 ⟨rfl, hb⟩
  have G3' := Lib.hid ((hb.block _ (blk_lt G3.out)).trans G3.out)
  have G4' := Lib.hid ((hb.block _ (blk_lt G4.out)).trans G4.out)
  have G5' := Lib.hid ((hb.block _ (blk_lt G5.out)).trans G5.out)
  have G7' := Lib.hid ((hb.block _ (blk_lt G7.out)).trans G7.out)
  have BE' := Lib.hid (BE.out.trans (hb.mono BE.out.size))
  clear hb BE G3 G4 G5 G7
  have G3 := Lib.hid G3'.out
  have G4 := Lib.hid G4'.out
  have G5 := Lib.hid G5'.out
  have G7 := Lib.hid G7'.out
  have BE := Lib.hid BE'.out
  clear BE' G3' G4' G5' G7'
  have GN := Lib.hid (heap_alloc_new u3 (.cells (bcells (zs 44)) 38))
  have RN := Lib.hid (alloc_setRowT u3 (bcells (zs 44)) (bcells L9) 38 _ rfl)
  have hal : Below u3.heap.size u3 (u3.alloc (.cells (bcells L9) 38)) := (Below.refl _ _).alloc (Nat.le_refl _) _
  have G9 := Lib.hid (heap_alloc_new u3 (.cells (bcells L9) 38))
  have n9G3 := blk_lt G3.out
  have n9G4 := blk_lt G4.out
  have n9G5 := blk_lt G5.out
  have n9G7 := blk_lt G7.out
  have G3' := Lib.hid ((hal.block _ (blk_lt G3.out)).trans G3.out)
  have G4' := Lib.hid ((hal.block _ (blk_lt G4.out)).trans G4.out)
  have G5' := Lib.hid ((hal.block _ (blk_lt G5.out)).trans G5.out)
  have G7' := Lib.hid ((hal.block _ (blk_lt G7.out)).trans G7.out)
  have BE' := Lib.hid (BE.out.trans (hal.mono BE.out.size))
  clear hal BE G3 G4 G5 G7
  have G3 := Lib.hid G3'.out
  have G4 := Lib.hid G4'.out
  have G5 := Lib.hid G5'.out
  have G7 := Lib.hid G7'.out
  have BE := Lib.hid BE'.out
  clear BE' G3' G4' G5' G7'
  go_upto_region 3 with (refine wpList_store_row rfl 38 (.tmp 9) (.tmp 26) rfl u3.heap.size (bcells L9) rfl rfl 38 (bcells (zs 44)) GN.out IL9.out SL9.out OL9.out ?_)
  rw [RN.out]
  try simp only [Act.put]
  generalize u3.alloc (.cells (bcells L9) 38) = u4 at *
  generalize u3.heap.size = q9 at *
  clear GN RN
  have hal : Below u4.heap.size u4 (u4.alloc (.cells #[.int .u8 0] 5)) := (Below.refl _ _).alloc (Nat.le_refl _) _
  have G11 := Lib.hid (heap_alloc_new u4 (.cells #[.int .u8 0] 5))
  have n11G3 := blk_lt G3.out
  have n11G4 := blk_lt G4.out
  have n11G5 := blk_lt G5.out
  have n11G7 := blk_lt G7.out
  have n11G9 := blk_lt G9.out
  have G3' := Lib.hid ((hal.block _ (blk_lt G3.out)).trans G3.out)
  have G4' := Lib.hid ((hal.block _ (blk_lt G4.out)).trans G4.out)
  have G5' := Lib.hid ((hal.block _ (blk_lt G5.out)).trans G5.out)
  have G7' := Lib.hid ((hal.block _ (blk_lt G7.out)).trans G7.out)
  have G9' := Lib.hid ((hal.block _ (blk_lt G9.out)).trans G9.out)
  have BE' := Lib.hid (BE.out.trans (hal.mono BE.out.size))
  clear hal BE G3 G4 G5 G7 G9
  have G3 := Lib.hid G3'.out
  have G4 := Lib.hid G4'.out
  have G5 := Lib.hid G5'.out
  have G7 := Lib.hid G7'.out
  have G9 := Lib.hid G9'.out
  have BE := Lib.hid BE'.out
  clear BE' G3' G4' G5' G7' G9'
  obtain ⟨u5, hu⟩ : ∃ x, x = u4.alloc (.cells #[.int .u8 0] 5) := ⟨_, rfl⟩
  obtain ⟨q11, hq⟩ : ∃ x, x = u4.heap.size := ⟨_, rfl⟩
  rw [← hu] at BE G3 G4 G5 G7 G9 G11
  rw [← hq] at G11 n11G3 n11G4 n11G5 n11G7 n11G9
  have HU := Lib.hid hu
  have HQ := Lib.hid hq
  clear hu hq
  have d30 := (C3.out _ G3.out).1
  rw [HU.out] at d30
  go_upto_if 30 with (fail)
  rw [← HU.out, ← HQ.out]
  clear d30 HU HQ
  go_cut [] (fun  wx => Below w.heap.size w wx ∧ Row wx (w.heap.size) 55 (ocells h s z) ∧ Row wx (w.heap.size + 1) 57 (ncells tz r q c) ∧ Row wx (w.heap.size + 1 + 1) 38 (bcells v) ∧ Row wx (q7) 38 (bcells L7) ∧ Row wx (q9) 38 (bcells L9) ∧ Row wx (q11) 5 #[.int .u8 (b2i h)])
  case first =>
    as_aux_lemma =>
      cases h with
      | true =>
        have dq : u5.cell? ⟨q11, 0, none⟩ = some (.int .u8 0) := by rw [cell_of_row _ _ _ _ _ _ G11.out]; rfl
        have fq : u5.frozen? ⟨q11, 0, none⟩ = false := frozen_block G11.out 0
        have sq : u5.setCell ⟨q11, 0, none⟩ (.int .u8 1) = u5.setRow q11 #[.int .u8 1] := by rw [setCell_eq_setRow _ q11 0 _ _ _ _ G11.out]; rfl
        have BE' := Lib.hid (BE.out.trans (below_row (g := q11) u5 #[.int .u8 1] (by omega)))
        have G3' := Lib.hid ((setRow_other u5 q11 (w.heap.size) #[.int .u8 1] (by omega)).trans G3.out)
        have G4' := Lib.hid ((setRow_other u5 q11 (w.heap.size + 1) #[.int .u8 1] (by omega)).trans G4.out)
        have G5' := Lib.hid ((setRow_other u5 q11 (w.heap.size + 1 + 1) #[.int .u8 1] (by omega)).trans G5.out)
        have G7' := Lib.hid ((setRow_other u5 q11 (q7) #[.int .u8 1] (by omega)).trans G7.out)
        have G9' := Lib.hid ((setRow_other u5 q11 (q9) #[.int .u8 1] (by omega)).trans G9.out)
        have G11' := Lib.hid (setRow_heap u5 _ _ #[.int .u8 1] _ _ G11.out)
        have SQ := Lib.hid sq
        clear sq
        go_wp2_with fail
        rw [SQ.out]
        go_meet
        exact ⟨BE'.out, G3'.out, G4'.out, G5'.out, G7'.out, G9'.out, G11'.out⟩
      | false =>
        go_wp2_with fail
        go_meet
        exact ⟨BE.out, G3.out, G4.out, G5.out, G7.out, G9.out, G11.out⟩
  case rest =>
    as_aux_lemma =>
      clear BE G3 G4 G5 G7 G9 G11
      obtain ⟨hbe, rG3, rG4, rG5, rG7, rG9, rG11⟩ := hcut
      have BE := Lib.hid hbe
      have G3 : Hid (_ = some (Obj.cells (ocells h s z) 55 (0, 0))) := rG3
      have G4 : Hid (_ = some (Obj.cells (ncells tz r q c) 57 (0, 0))) := rG4
      have G5 : Hid (_ = some (Obj.cells (bcells v) 38 (0, 0))) := rG5
      have G7 : Hid (_ = some (Obj.cells (bcells L7) 38 (0, 0))) := rG7
      have G9 : Hid (_ = some (Obj.cells (bcells L9) 38 (0, 0))) := rG9
      have G11 : Hid (_ = some (Obj.cells #[.int .u8 (b2i h)] 5 (0, 0))) := rG11
      clear hbe rG3 rG4 rG5 rG7 rG9 rG11
      go_upto_region 6 with (fail)
      go_cut [12] (fun s12 wx => s12 = .bool mo ∧ Below w.heap.size w wx ∧ Row wx (w.heap.size) 55 (ocells h s z) ∧ Row wx (w.heap.size + 1) 57 (ncells tz r q c) ∧ Row wx (w.heap.size + 1 + 1) 38 (bcells v) ∧ Row wx (q7) 38 (bcells L7) ∧ Row wx (q9) 38 (bcells L9) ∧ Row wx (q11) 5 #[.int .u8 (b2i h)])
      case first =>
        as_aux_lemma =>
          clear K26 K27 K28 K29 MN HT7 HF7 HT9 HF9 T4 T5 Lv Bv Ltz Btz Lpz Bpz Lqz Bqz Rs Rps Rqr Rqq HR HN NL7 YL7 NL9 YL9 zz38 zz55 zz57 b38' b55' b57' IL7 IL9 Iv SL7 SL9 OL7 OL9 IX3 IX4 IXp IXq SXp SXq OXp OXq HW0 C4 SS
          cases h with
          | true =>
            have e : Hid (true = mo) := by show _ = _; rw [← MO.out]; exact (decide_eq_true (Or.inl rfl)).symm
            obtain ⟨d0, _, _⟩ := C3.out _ G3.out
            go_wp2_with fail
            go_meet
            exact ⟨by rw [e.out], BE.out, G3.out, G4.out, G5.out, G7.out, G9.out, G11.out⟩
          | false =>
            obtain ⟨d0, _, _⟩ := C3.out _ G3.out
            have eq : ∀ W : World, (Op.equalIn 10000 35 (.agg (rcells s z).toArray) (.agg (rcells 0 (zs 32)).toArray)).run Try.prog W = .ok mo W := fun W => by
              rw [eq35d 9997 _ _ _ _ Bz.out (zs_byt _) Lz.out (zs_len _) W, ← MO.out]
              simp [oMay]
            have RT := Lib.hid (oroot G3.out)
            have IR := Lib.hid (rcells_len (s := s) Lz.out)
            go_wp2_with (first
              | (refine wpList_mid_met rfl 35 (.tmp 36) rfl w.heap.size 1 rfl (rcells s z) _ RT.out Try.underlying35 rfl IR.out ?_)
              | (refine wpList_blank_met rfl 35 rfl (b35'.out _) ?_))
            go_meet
            exact ⟨rfl, BE.out, G3.out, G4.out, G5.out, G7.out, G9.out, G11.out⟩
      case rest =>
        as_aux_lemma =>
          clear BE G3 G4 G5 G7 G9 G11
          obtain ⟨rfl, hbe, rG3, rG4, rG5, rG7, rG9, rG11⟩ := hcut
          have BE := Lib.hid hbe
          have G3 : Hid (_ = some (Obj.cells (ocells h s z) 55 (0, 0))) := rG3
          have G4 : Hid (_ = some (Obj.cells (ncells tz r q c) 57 (0, 0))) := rG4
          have G5 : Hid (_ = some (Obj.cells (bcells v) 38 (0, 0))) := rG5
          have G7 : Hid (_ = some (Obj.cells (bcells L7) 38 (0, 0))) := rG7
          have G9 : Hid (_ = some (Obj.cells (bcells L9) 38 (0, 0))) := rG9
          have G11 : Hid (_ = some (Obj.cells #[.int .u8 (b2i h)] 5 (0, 0))) := rG11
          clear hbe rG3 rG4 rG5 rG7 rG9 rG11
          go_upto_region 7 with (fail)
          go_cut [13] (fun s13 wx => s13 = .bool mn ∧ Below w.heap.size w wx ∧ Row wx (w.heap.size) 55 (ocells h s z) ∧ Row wx (w.heap.size + 1) 57 (ncells tz r q c) ∧ Row wx (w.heap.size + 1 + 1) 38 (bcells v) ∧ Row wx (q7) 38 (bcells L7) ∧ Row wx (q9) 38 (bcells L9) ∧ Row wx (q11) 5 #[.int .u8 (b2i h)])
          case first =>
            as_aux_lemma =>
              clear K26 K27 K28 K29 MO HT7 HF7 HT9 HF9 T4 T5 Lv Bv Lz Bz Ltz Btz Lpz Bpz Lqz Bqz Rs Rps Rqr Rqq HR HN NL7 YL7 NL9 YL9 zz38 zz55 zz57 b38' b35' b55' b57' IL7 IL9 Iv SL7 SL9 OL7 OL9 IX3 IX4 IXp IXq SXp SXq OXp OXq HW0 C3 SS
              obtain ⟨⟨d0, d1, d2⟩, _⟩ := C4.out _ G4.out
              by_cases a1 : 0 ≤ r
              · by_cases a2 : r ≤ 2048
                · by_cases a3 : 0 ≤ q
                  · by_cases a4 : q ≤ 2048
                    · by_cases a5 : c = 0
                      · have e : Hid (true = mn) := by show _ = _; rw [← MN.out]; exact (decide_eq_true ⟨⟨a1, a2⟩, ⟨a3, a4⟩, by omega, by omega⟩).symm
                        subst a5
                        go_wp2_with fail
                        go_meet
                        exact ⟨by rw [e.out], BE.out, G3.out, G4.out, G5.out, G7.out, G9.out, G11.out⟩
                      · by_cases a6 : c = 1
                        · have e : Hid (true = mn) := by show _ = _; rw [← MN.out]; exact (decide_eq_true ⟨⟨a1, a2⟩, ⟨a3, a4⟩, by omega, by omega⟩).symm
                          subst a6
                          go_wp2_with fail
                          go_meet
                          exact ⟨by rw [e.out], BE.out, G3.out, G4.out, G5.out, G7.out, G9.out, G11.out⟩
                        · have e : Hid (false = mn) := by show _ = _; rw [← MN.out]; exact (decide_eq_false (fun h => by have := h.2.2; omega)).symm
                          have b5 : (c == 0) = false := by simpa using a5
                          have b6 : (c == 1) = false := by simpa using a6
                          clear a5 a6
                          go_wp2_with fail
                          go_meet
                          exact ⟨by rw [e.out], BE.out, G3.out, G4.out, G5.out, G7.out, G9.out, G11.out⟩
                    · have e : Hid (false = mn) := by show _ = _; rw [← MN.out]; exact (decide_eq_false (fun h => a4 h.2.1.2)).symm
                      go_wp2_with fail
                      go_meet
                      exact ⟨by rw [e.out], BE.out, G3.out, G4.out, G5.out, G7.out, G9.out, G11.out⟩
                  · have e : Hid (false = mn) := by show _ = _; rw [← MN.out]; exact (decide_eq_false (fun h => a3 h.2.1.1)).symm
                    go_wp2_with fail
                    go_meet
                    exact ⟨by rw [e.out], BE.out, G3.out, G4.out, G5.out, G7.out, G9.out, G11.out⟩
                · have e : Hid (false = mn) := by show _ = _; rw [← MN.out]; exact (decide_eq_false (fun h => a2 h.1.2)).symm
                  go_wp2_with fail
                  go_meet
                  exact ⟨by rw [e.out], BE.out, G3.out, G4.out, G5.out, G7.out, G9.out, G11.out⟩
              · have e : Hid (false = mn) := by show _ = _; rw [← MN.out]; exact (decide_eq_false (fun h => a1 h.1.1)).symm
                go_wp2_with fail
                go_meet
                exact ⟨by rw [e.out], BE.out, G3.out, G4.out, G5.out, G7.out, G9.out, G11.out⟩
          case rest =>
            as_aux_lemma =>
              clear BE G3 G4 G5 G7 G9 G11
              obtain ⟨rfl, hbe, rG3, rG4, rG5, rG7, rG9, rG11⟩ := hcut
              have BE := Lib.hid hbe
              have G3 : Hid (_ = some (Obj.cells (ocells h s z) 55 (0, 0))) := rG3
              have G4 : Hid (_ = some (Obj.cells (ncells tz r q c) 57 (0, 0))) := rG4
              have G5 : Hid (_ = some (Obj.cells (bcells v) 38 (0, 0))) := rG5
              have G7 : Hid (_ = some (Obj.cells (bcells L7) 38 (0, 0))) := rG7
              have G9 : Hid (_ = some (Obj.cells (bcells L9) 38 (0, 0))) := rG9
              have G11 : Hid (_ = some (Obj.cells #[.int .u8 (b2i h)] 5 (0, 0))) := rG11
              clear hbe rG3 rG4 rG5 rG7 rG9 rG11
              go_upto_region 8 with (fail)
              go_cut [104] (fun s104 wx => s104 = .bool false ∧ Below w.heap.size w wx ∧ Row wx (w.heap.size) 55 (ocells h s z) ∧ Row wx (w.heap.size + 1) 57 (ncells tz r q c) ∧ Row wx (w.heap.size + 1 + 1) 38 (bcells v) ∧ Row wx (q7) 38 (bcells L7) ∧ Row wx (q9) 38 (bcells L9) ∧ Row wx (q11) 5 #[.int .u8 (b2i h)])
              case first =>
                as_aux_lemma =>
                  have T7 := Lib.hid (fun (h : mo = false) => (HF7.out h).2)
                  have T9 := Lib.hid (fun (h : mn = false) => (HF9.out h).2)
                  cases mo with
                  | true =>
                    obtain ⟨rfl, e7⟩ := HT7.out rfl
                    clear e7
                    cases mn with
                    | true =>
                      obtain ⟨rfl, e9⟩ := HT9.out rfl
                      clear e9
                      clear HT7 HF7 HT9 HF9 T7 T9 HR HN T5
                      go_wp2_with (first
                        | (refine wpList_load_met' rfl 38 (.tmp 7) rfl (q7) rfl 38 (bcells L7) (0, 0) _ G7.out Try.underlying38 ⟨_, _, rfl⟩ IL7.out ?_)
                        | (refine wpList_load_met' rfl 38 (.tmp 9) rfl (q9) rfl 38 (bcells L9) (0, 0) _ G9.out Try.underlying38 ⟨_, _, rfl⟩ IL9.out ?_)
                        | (refine wpList_blank_met rfl 38 rfl (b38'.out _) ?_))
                      go_meet
                      exact ⟨rfl, BE.out, G3.out, G4.out, G5.out, G7.out, G9.out, G11.out⟩
                    | false =>
                      obtain ⟨rfl, e9⟩ := HF9.out rfl
                      have eqL9 : ∀ w : World, (Op.equalIn 10000 38 (.agg (bcells L9)) (.agg (bcells (zs 44)))).run Try.prog w = .ok true w := fun W => by rw [e9, eq38 (zs 44) (zs 44) (zs_byt _) (zs_byt _) (zs_len _) (zs_len _)]; simp
                      clear e9
                      clear HT7 HF7 HT9 HF9 T7 T9 HR HN T5
                      go_wp2_with (first
                        | (refine wpList_load_met' rfl 38 (.tmp 7) rfl (q7) rfl 38 (bcells L7) (0, 0) _ G7.out Try.underlying38 ⟨_, _, rfl⟩ IL7.out ?_)
                        | (refine wpList_load_met' rfl 38 (.tmp 9) rfl (q9) rfl 38 (bcells L9) (0, 0) _ G9.out Try.underlying38 ⟨_, _, rfl⟩ IL9.out ?_)
                        | (refine wpList_blank_met rfl 38 rfl (b38'.out _) ?_))
                      go_meet
                      exact ⟨rfl, BE.out, G3.out, G4.out, G5.out, G7.out, G9.out, G11.out⟩
                  | false =>
                    obtain ⟨rfl, e7⟩ := HF7.out rfl
                    have eqL7 : ∀ w : World, (Op.equalIn 10000 38 (.agg (bcells L7)) (.agg (bcells (zs 44)))).run Try.prog w = .ok true w := fun W => by rw [e7, eq38 (zs 44) (zs 44) (zs_byt _) (zs_byt _) (zs_len _) (zs_len _)]; simp
                    clear e7
                    cases mn with
                    | true =>
                      obtain ⟨rfl, e9⟩ := HT9.out rfl
                      clear e9
                      clear HT7 HF7 HT9 HF9 T7 T9 HR HN T5
                      go_wp2_with (first
                        | (refine wpList_load_met' rfl 38 (.tmp 7) rfl (q7) rfl 38 (bcells L7) (0, 0) _ G7.out Try.underlying38 ⟨_, _, rfl⟩ IL7.out ?_)
                        | (refine wpList_load_met' rfl 38 (.tmp 9) rfl (q9) rfl 38 (bcells L9) (0, 0) _ G9.out Try.underlying38 ⟨_, _, rfl⟩ IL9.out ?_)
                        | (refine wpList_blank_met rfl 38 rfl (b38'.out _) ?_))
                      go_meet
                      exact ⟨rfl, BE.out, G3.out, G4.out, G5.out, G7.out, G9.out, G11.out⟩
                    | false =>
                      obtain ⟨rfl, e9⟩ := HF9.out rfl
                      have eqL9 : ∀ w : World, (Op.equalIn 10000 38 (.agg (bcells L9)) (.agg (bcells (zs 44)))).run Try.prog w = .ok true w := fun W => by rw [e9, eq38 (zs 44) (zs 44) (zs_byt _) (zs_byt _) (zs_len _) (zs_len _)]; simp
                      clear e9
                      clear HT7 HF7 HT9 HF9 T7 T9 HR HN T5
                      go_wp2_with (first
                        | (refine wpList_load_met' rfl 38 (.tmp 7) rfl (q7) rfl 38 (bcells L7) (0, 0) _ G7.out Try.underlying38 ⟨_, _, rfl⟩ IL7.out ?_)
                        | (refine wpList_load_met' rfl 38 (.tmp 9) rfl (q9) rfl 38 (bcells L9) (0, 0) _ G9.out Try.underlying38 ⟨_, _, rfl⟩ IL9.out ?_)
                        | (refine wpList_blank_met rfl 38 rfl (b38'.out _) ?_))
                      go_meet
                      exact ⟨rfl, BE.out, G3.out, G4.out, G5.out, G7.out, G9.out, G11.out⟩
              case rest =>
                as_aux_lemma =>
                  clear BE G3 G4 G5 G7 G9 G11
                  obtain ⟨rfl, hbe, rG3, rG4, rG5, rG7, rG9, rG11⟩ := hcut
                  have BE := Lib.hid hbe
                  have G3 : Hid (_ = some (Obj.cells (ocells h s z) 55 (0, 0))) := rG3
                  have G4 : Hid (_ = some (Obj.cells (ncells tz r q c) 57 (0, 0))) := rG4
                  have G5 : Hid (_ = some (Obj.cells (bcells v) 38 (0, 0))) := rG5
                  have G7 : Hid (_ = some (Obj.cells (bcells L7) 38 (0, 0))) := rG7
                  have G9 : Hid (_ = some (Obj.cells (bcells L9) 38 (0, 0))) := rG9
                  have G11 : Hid (_ = some (Obj.cells #[.int .u8 (b2i h)] 5 (0, 0))) := rG11
                  clear hbe rG3 rG4 rG5 rG7 rG9 rG11
                  go_upto_region 10 with (fail)
                  go_cut [122] (fun s122 wx => s122 = .bool false ∧ Below w.heap.size w wx ∧ Row wx (w.heap.size) 55 (ocells h s z) ∧ Row wx (w.heap.size + 1) 57 (ncells tz r q c) ∧ Row wx (w.heap.size + 1 + 1) 38 (bcells v) ∧ Row wx (q7) 38 (bcells L7) ∧ Row wx (q9) 38 (bcells L9) ∧ Row wx (q11) 5 #[.int .u8 (b2i h)])
                  case first =>
                    as_aux_lemma =>
                      have WS := Lib.hid (wrap_of Rs.out.1 Rs.out.2)
                      have s1 : 0 ≤ s := Rs.out.1
                      have s2 : s ≤ 4294967295 := Rs.out.2
                      have S11 : Hid (∀ W : World, W.heap[q11]? = some (.cells #[.int .u8 (b2i h)] 5 (0, 0)) → Sees W (.slice (some ⟨q11, 0, none⟩) 1 1) (be 1 (b2i h))) := fun W hW => by
                        rw [← be1 _ (b2i_bd h).1 (b2i_bd h).2] at hW
                        exact sees_rowT W q11 5 _ (be_byt _ _) (by rw [be_len]; decide) hW 1 (be_len _ _).symm
                      cases mo with
                      | true =>
                        have F7 := Lib.hid (HT7.out rfl).2
                        clear HT7 HF7 HT9 HF9 HR HN T5
                        refine wp_region_held_drew (S := fun W => Below w.heap.size w W ∧ W.heap[(w.heap.size)]? = some (.cells (ocells h s z) 55 (0, 0)) ∧ W.heap[(q7)]? = some (.cells (bcells L7) 38 (0, 0))) (by kernel_rfl) (⟨BE.out.drew, G3.out, G7.out⟩) (fun hS => ?_)
                        have hb0 : Below wc.heap.size wc wc.drew := (Below.refl _ _).drew
                        have qG3 := (hb0.block _ (blk_lt G3.out)).trans G3.out
                        have qG4 := (hb0.block _ (blk_lt G4.out)).trans G4.out
                        have qG5 := (hb0.block _ (blk_lt G5.out)).trans G5.out
                        have qG7 := (hb0.block _ (blk_lt G7.out)).trans G7.out
                        have qG9 := (hb0.block _ (blk_lt G9.out)).trans G9.out
                        have qG11 := (hb0.block _ (blk_lt G11.out)).trans G11.out
                        clear hb0 G3 G4 G5 G7 G9 G11
                        generalize wc.drew = Was at hS qG3 qG4 qG5 qG7 qG9 qG11 ⊢
                        have G3 := Lib.hid qG3
                        have G4 := Lib.hid qG4
                        have G5 := Lib.hid qG5
                        have G7 := Lib.hid qG7
                        have G9 := Lib.hid qG9
                        have G11 := Lib.hid qG11
                        clear qG3 qG4 qG5 qG7 qG9 qG11
                        refine' wpAnyH_take (i := 0) ?h1x0a ?hsx0a ?hfx0a ?hrx0a ?hQx0a (Or.inl ⟨?hwx0a, ?hyx0a⟩) hS ?restx0a
                        case h1x0a => (simp only [List.getElem?_toArray, List.getElem?_cons_zero]; rfl)
                        case hsx0a => kernel_rfl
                        case hfx0a => kernel_rfl
                        case hrx0a => kernel_rfl
                        case hQx0a => exact fun _ _ _ h => h
                        case hwx0a => rfl
                        case hyx0a =>
                          intro W hW
                          go_simp
                          try with_reducible rfl
                        simp only [Act.put, List.setIfInBounds_toArray, List.set_cons_succ, List.set_cons_zero]
                        refine' wpAnyH_take (i := 1) ?h1x1a ?hsx1a ?hfx1a ?hrx1a ?hQx1a (Or.inl ⟨?hwx1a, ?hyx1a⟩) hS ?restx1a
                        case h1x1a => (simp only [List.getElem?_toArray, List.getElem?_cons_succ, List.getElem?_cons_zero]; rfl)
                        case hsx1a => kernel_rfl
                        case hfx1a => kernel_rfl
                        case hrx1a => kernel_rfl
                        case hQx1a => exact fun _ _ _ h => h
                        case hwx1a => rfl
                        case hyx1a =>
                          intro W hW
                          go_simp
                          try with_reducible rfl
                        simp only [Act.put, List.setIfInBounds_toArray, List.set_cons_succ, List.set_cons_zero]
                        refine' wpAnyH_take (i := 2) ?h1x2a ?hsx2a ?hfx2a ?hrx2a ?hQx2a (Or.inl ⟨?hwx2a, ?hyx2a⟩) hS ?restx2a
                        case h1x2a => (simp only [List.getElem?_toArray, List.getElem?_cons_succ, List.getElem?_cons_zero]; rfl)
                        case hsx2a => kernel_rfl
                        case hfx2a => kernel_rfl
                        case hrx2a => kernel_rfl
                        case hQx2a => exact fun _ _ _ h => h
                        case hwx2a => rfl
                        case hyx2a =>
                          intro W hW
                          go_simp
                          try with_reducible rfl
                        simp only [Act.put, List.setIfInBounds_toArray, List.set_cons_succ, List.set_cons_zero]
                        refine' wpAnyH_take (i := 4) ?h1x4a ?hsx4a ?hfx4a ?hrx4a ?hQx4a (Or.inl ⟨?hwx4a, ?hyx4a⟩) hS ?restx4a
                        case h1x4a => (simp only [List.getElem?_toArray, List.getElem?_cons_succ, List.getElem?_cons_zero]; rfl)
                        case hsx4a => kernel_rfl
                        case hfx4a => kernel_rfl
                        case hrx4a => kernel_rfl
                        case hQx4a => exact fun _ _ _ h => h
                        case hwx4a => rfl
                        case hyx4a =>
                          intro W hW
                          go_simp
                          try with_reducible rfl
                        simp only [Act.put, List.setIfInBounds_toArray, List.set_cons_succ, List.set_cons_zero]
                        refine' wpAnyH_take (i := 5) ?h1x5a ?hsx5a ?hfx5a ?hrx5a ?hQx5a (Or.inl ⟨?hwx5a, ?hyx5a⟩) hS ?restx5a
                        case h1x5a => (simp only [List.getElem?_toArray, List.getElem?_cons_succ, List.getElem?_cons_zero]; rfl)
                        case hsx5a => kernel_rfl
                        case hfx5a => kernel_rfl
                        case hrx5a => kernel_rfl
                        case hQx5a => exact fun _ _ _ h => h
                        case hwx5a => rfl
                        case hyx5a =>
                          intro W hW
                          go_simp
                          try with_reducible rfl
                        simp only [Act.put, List.setIfInBounds_toArray, List.set_cons_succ, List.set_cons_zero]
                        refine' wpAnyH_take (i := 10) ?h1x10a ?hsx10a ?hfx10a ?hrx10a ?hQx10a (Or.inl ⟨?hwx10a, ?hyx10a⟩) hS ?restx10a
                        case h1x10a => (simp only [List.getElem?_toArray, List.getElem?_cons_succ, List.getElem?_cons_zero]; rfl)
                        case hsx10a => kernel_rfl
                        case hfx10a => kernel_rfl
                        case hrx10a => kernel_rfl
                        case hQx10a => exact fun _ _ _ h => h
                        case hwx10a => rfl
                        case hyx10a =>
                          intro W hW
                          go_simp
                          try with_reducible rfl
                        simp only [Act.put, List.setIfInBounds_toArray, List.set_cons_succ, List.set_cons_zero]
                        refine' wpAnyH_take (i := 3) ?h1x3a ?hsx3a ?hfx3a ?hrx3a ?hQx3a (Or.inl ⟨?hwx3a, ?hyx3a⟩) hS ?restx3a
                        case h1x3a => (simp only [List.getElem?_toArray, List.getElem?_cons_succ, List.getElem?_cons_zero]; rfl)
                        case hsx3a => kernel_rfl
                        case hfx3a => kernel_rfl
                        case hrx3a => kernel_rfl
                        case hQx3a => exact fun _ _ _ h => h
                        case hwx3a => rfl
                        case hyx3a =>
                          intro W hW
                          have cv := (SS.out W _ _ YL7.out NL7.out hW.2.2).str
                          go_simp
                          try with_reducible rfl
                        simp only [Act.put, List.setIfInBounds_toArray, List.set_cons_succ, List.set_cons_zero]
                        refine' wpAnyH_take (i := 6) ?h1x6a ?hsx6a ?hfx6a ?hrx6a ?hQx6a (Or.inl ⟨?hwx6a, ?hyx6a⟩) hS ?restx6a
                        case h1x6a => (simp only [List.getElem?_toArray, List.getElem?_cons_succ, List.getElem?_cons_zero]; rfl)
                        case hsx6a => kernel_rfl
                        case hfx6a => kernel_rfl
                        case hrx6a => kernel_rfl
                        case hQx6a => exact fun _ _ _ h => h
                        case hwx6a => rfl
                        case hyx6a =>
                          intro W hW
                          go_simp
                          try with_reducible rfl
                        simp only [Act.put, List.setIfInBounds_toArray, List.set_cons_succ, List.set_cons_zero]
                        refine' wpAnyH_take (i := 11) ?h1x11a ?hsx11a ?hfx11a ?hrx11a ?hQx11a (Or.inl ⟨?hwx11a, ?hyx11a⟩) hS ?restx11a
                        case h1x11a => (simp only [List.getElem?_toArray, List.getElem?_cons_succ, List.getElem?_cons_zero]; rfl)
                        case hsx11a => kernel_rfl
                        case hfx11a => kernel_rfl
                        case hrx11a => kernel_rfl
                        case hQx11a => exact fun _ _ _ h => h
                        case hwx11a => rfl
                        case hyx11a =>
                          intro W hW
                          go_simp
                          try with_reducible rfl
                        simp only [Act.put, List.setIfInBounds_toArray, List.set_cons_succ, List.set_cons_zero]
                        refine' wpAnyH_take (i := 7) ?h1x7a ?hsx7a ?hfx7a ?hrx7a ?hQx7a (Or.inl ⟨?hwx7a, ?hyx7a⟩) hS ?restx7a
                        case h1x7a => (simp only [List.getElem?_toArray, List.getElem?_cons_succ, List.getElem?_cons_zero]; rfl)
                        case hsx7a => kernel_rfl
                        case hfx7a => kernel_rfl
                        case hrx7a => kernel_rfl
                        case hQx7a => exact fun _ _ _ h => h
                        case hwx7a => rfl
                        case hyx7a =>
                          intro W hW
                          have dd := (C3.out _ hW.2.1).2.1
                          go_simp
                          try with_reducible rfl
                        simp only [Act.put, List.setIfInBounds_toArray, List.set_cons_succ, List.set_cons_zero]
                        refine' wpAnyH_take (i := 12) ?h1x12a ?hsx12a ?hfx12a ?hrx12a ?hQx12a (Or.inl ⟨?hwx12a, ?hyx12a⟩) hS ?restx12a
                        case h1x12a => (simp only [List.getElem?_toArray, List.getElem?_cons_succ, List.getElem?_cons_zero]; rfl)
                        case hsx12a => kernel_rfl
                        case hfx12a => kernel_rfl
                        case hrx12a => kernel_rfl
                        case hQx12a => exact fun _ _ _ h => h
                        case hwx12a => rfl
                        case hyx12a =>
                          intro W hW
                          go_simp
                          try with_reducible rfl
                        simp only [Act.put, List.setIfInBounds_toArray, List.set_cons_succ, List.set_cons_zero]
                        refine' wpAnyH_take (i := 8) ?h1x8a ?hsx8a ?hfx8a ?hrx8a ?hQx8a (Or.inl ⟨?hwx8a, ?hyx8a⟩) hS ?restx8a
                        case h1x8a => (simp only [List.getElem?_toArray, List.getElem?_cons_succ, List.getElem?_cons_zero]; rfl)
                        case hsx8a => kernel_rfl
                        case hfx8a => kernel_rfl
                        case hrx8a => kernel_rfl
                        case hQx8a => exact fun _ _ _ h => h
                        case hwx8a => rfl
                        case hyx8a =>
                          intro W hW
                          have dd := WS.out
                          go_simp
                          try with_reducible rfl
                        simp only [Act.put, List.setIfInBounds_toArray, List.set_cons_succ, List.set_cons_zero]
                        refine wpAnyH_ready (rs := [9]) (by kernel_rfl) (by simp) ?_
                        refine' (AllReadyH.cons ?hoc9a (fun K hK => ?stc9a) AllReadyH.nil)
                        case hoc9a => (simp only [List.getElem?_toArray, List.getElem?_cons_succ, List.getElem?_cons_zero]; rfl)
                        go_simp
                        refine (T4.out Was).mono ?_
                        rintro e Wax9 ⟨xa, ca, rfl, hs, hb⟩
                        have G3 := Lib.hid ((hb.block _ (blk_lt G3.out)).trans G3.out)
                        have G4 := Lib.hid ((hb.block _ (blk_lt G4.out)).trans G4.out)
                        have G5 := Lib.hid ((hb.block _ (blk_lt G5.out)).trans G5.out)
                        have G7 := Lib.hid ((hb.block _ (blk_lt G7.out)).trans G7.out)
                        have G9 := Lib.hid ((hb.block _ (blk_lt G9.out)).trans G9.out)
                        have G11 := Lib.hid ((hb.block _ (blk_lt G11.out)).trans G11.out)
                        have Sa := Lib.hid hs
                        clear hs
                        go_wp2_with fail
                        refine hK.out _ _ (⟨hS.1.trans (hb.mono hS.1.size), (hb.block _ (blk_lt hS.2.1)).trans hS.2.1, (hb.block _ (blk_lt hS.2.2)).trans hS.2.2⟩) (fun hHeld => ?_)
                        clear hK K
                        try simp only [Act.put, List.setIfInBounds_toArray, List.set_cons_succ, List.set_cons_zero]
                        clear hS
                        have hS := hHeld
                        clear hHeld
                        clear hb
                        refine wpAnyH_ready (rs := [13]) (by kernel_rfl) (by simp) ?_
                        refine' (AllReadyH.cons ?hoc13ax9 (fun K hK => ?stc13ax9) AllReadyH.nil)
                        case hoc13ax9 => (simp only [List.getElem?_toArray, List.getElem?_cons_succ, List.getElem?_cons_zero]; rfl)
                        go_simp
                        have hb := (Below.refl Wax9.heap.size Wax9).alloc (Nat.le_refl _) (.cells #[.slice (some ⟨q11, 0, none⟩) 1 1, .slice xa 4 ca, .slice (some ⟨w.heap.size, 2, none⟩) 32 32] 43)
                        refine hK.out _ _ (⟨hS.1.trans (hb.mono hS.1.size), (hb.block _ (blk_lt hS.2.1)).trans hS.2.1, (hb.block _ (blk_lt hS.2.2)).trans hS.2.2⟩) (fun hHeld => ?_)
                        clear hK K
                        try simp only [Act.put, List.setIfInBounds_toArray, List.set_cons_succ, List.set_cons_zero]
                        have qGP := heap_alloc_new Wax9 (.cells #[.slice (some ⟨q11, 0, none⟩) 1 1, .slice xa 4 ca, .slice (some ⟨w.heap.size, 2, none⟩) 32 32] 43)
                        have hgp := hS.1.size
                        have qG3 := (hb.block _ (blk_lt G3.out)).trans G3.out
                        have qG4 := (hb.block _ (blk_lt G4.out)).trans G4.out
                        have qG5 := (hb.block _ (blk_lt G5.out)).trans G5.out
                        have qG7 := (hb.block _ (blk_lt G7.out)).trans G7.out
                        have qG9 := (hb.block _ (blk_lt G9.out)).trans G9.out
                        have qG11 := (hb.block _ (blk_lt G11.out)).trans G11.out
                        have qSa := Sa.out.below hb
                        clear hS
                        have hS := hHeld
                        clear hHeld
                        clear hb
                        clear G3 G4 G5 G7 G9 G11 Sa
                        generalize Wax9.alloc (.cells #[.slice (some ⟨q11, 0, none⟩) 1 1, .slice xa 4 ca, .slice (some ⟨w.heap.size, 2, none⟩) 32 32] 43) = Wax9x13 at *
                        generalize Wax9.heap.size = gp at *
                        have G3 := Lib.hid qG3
                        have G4 := Lib.hid qG4
                        have G5 := Lib.hid qG5
                        have G7 := Lib.hid qG7
                        have G9 := Lib.hid qG9
                        have G11 := Lib.hid qG11
                        have Sa := Lib.hid qSa
                        have GP := Lib.hid qGP
                        clear qG3 qG4 qG5 qG7 qG9 qG11 qSa qGP
                        refine wpAnyH_ready (rs := [14]) (by kernel_rfl) (by simp) ?_
                        refine' (AllReadyH.cons ?hoc14ax9x13 (fun K hK => ?stc14ax9x13) AllReadyH.nil)
                        case hoc14ax9x13 => (simp only [List.getElem?_toArray, List.getElem?_cons_succ, List.getElem?_cons_zero]; rfl)
                        go_simp
                        refine (sl_full _ 3 [_, _, _] [be 1 (b2i h), be 4 s, z] L7 F7.out rfl (by decide) (by simp [be_len, Lz.out]) Wax9x13 GP.out ⟨S11.out _ G11.out, be_ne 0 _, Sa.out, be_ne 3 s, (C3.out _ G3.out).2.2, ne_of_len Lz.out, trivial⟩).mono ?_
                        rintro e Wax9x13x14 ⟨xf, cxf, rfl, hs, hb⟩
                        have G3 := Lib.hid ((hb.block _ (blk_lt G3.out)).trans G3.out)
                        have G4 := Lib.hid ((hb.block _ (blk_lt G4.out)).trans G4.out)
                        have G5 := Lib.hid ((hb.block _ (blk_lt G5.out)).trans G5.out)
                        have G7 := Lib.hid ((hb.block _ (blk_lt G7.out)).trans G7.out)
                        have G9 := Lib.hid ((hb.block _ (blk_lt G9.out)).trans G9.out)
                        have G11 := Lib.hid ((hb.block _ (blk_lt G11.out)).trans G11.out)
                        have Sa := Lib.hid (Sa.out.below hb)
                        have GP := Lib.hid ((hb.block _ (blk_lt GP.out)).trans GP.out)
                        have Sf := Lib.hid hs
                        clear hs
                        go_wp2_with fail
                        refine hK.out _ _ (⟨hS.1.trans (hb.mono hS.1.size), (hb.block _ (blk_lt hS.2.1)).trans hS.2.1, (hb.block _ (blk_lt hS.2.2)).trans hS.2.2⟩) (fun hHeld => ?_)
                        clear hK K
                        try simp only [Act.put, List.setIfInBounds_toArray, List.set_cons_succ, List.set_cons_zero]
                        clear hS
                        have hS := hHeld
                        clear hHeld
                        clear hb
                        refine wpAnyH_ready (rs := [15]) (by kernel_rfl) (by simp) ?_
                        refine' (AllReadyH.cons ?hoc15ax9x13x14 (fun K hK => ?stc15ax9x13x14) AllReadyH.nil)
                        case hoc15ax9x13x14 => (simp only [List.getElem?_toArray, List.getElem?_cons_succ, List.getElem?_cons_zero]; rfl)
                        have cv := Sf.out.str
                        go_simp
                        refine hK.out _ _ hS (fun hHeld => ?_)
                        clear hK K
                        try simp only [Act.put, List.setIfInBounds_toArray, List.set_cons_succ, List.set_cons_zero]
                        clear hS
                        have hS := hHeld
                        clear hHeld
                        refine' wpAnyH_take (i := 16) ?h1x16ax9x13x14x15 ?hsx16ax9x13x14x15 ?hfx16ax9x13x14x15 ?hrx16ax9x13x14x15 ?hQx16ax9x13x14x15 (Or.inl ⟨?hwx16ax9x13x14x15, ?hyx16ax9x13x14x15⟩) hS ?restx16ax9x13x14x15
                        case h1x16ax9x13x14x15 => (simp only [List.getElem?_toArray, List.getElem?_cons_succ, List.getElem?_cons_zero]; rfl)
                        case hsx16ax9x13x14x15 => kernel_rfl
                        case hfx16ax9x13x14x15 => kernel_rfl
                        case hrx16ax9x13x14x15 => kernel_rfl
                        case hQx16ax9x13x14x15 => exact fun _ _ _ h => h
                        case hwx16ax9x13x14x15 => rfl
                        case hyx16ax9x13x14x15 =>
                          intro W hW
                          go_simp
                          try with_reducible rfl
                        simp only [Act.put, List.setIfInBounds_toArray, List.set_cons_succ, List.set_cons_zero]
                        refine' wpAnyH_take (i := 17) ?h1x17ax9x13x14x15 ?hsx17ax9x13x14x15 ?hfx17ax9x13x14x15 ?hrx17ax9x13x14x15 ?hQx17ax9x13x14x15 (Or.inl ⟨?hwx17ax9x13x14x15, ?hyx17ax9x13x14x15⟩) hS ?restx17ax9x13x14x15
                        case h1x17ax9x13x14x15 => (simp only [List.getElem?_toArray, List.getElem?_cons_succ, List.getElem?_cons_zero]; rfl)
                        case hsx17ax9x13x14x15 => kernel_rfl
                        case hfx17ax9x13x14x15 => kernel_rfl
                        case hrx17ax9x13x14x15 => kernel_rfl
                        case hQx17ax9x13x14x15 => exact fun _ _ _ h => h
                        case hwx17ax9x13x14x15 => rfl
                        case hyx17ax9x13x14x15 =>
                          intro W hW
                          go_simp
                          try with_reducible rfl
                        simp only [Act.put, List.setIfInBounds_toArray, List.set_cons_succ, List.set_cons_zero]
                        refine wpAnyH_done (by kernel_rfl) ?_ _
                        go_wp2_with fail
                        go_meet
                        exact ⟨rfl, hS.1, G3.out, G4.out, G5.out, G7.out, G9.out, G11.out⟩
                      | false =>
                        clear HT7 HF7 HT9 HF9 HR HN T5
                        refine wp_region_held_drew (S := fun W => Below w.heap.size w W ∧ W.heap[(w.heap.size)]? = some (.cells (ocells h s z) 55 (0, 0)) ∧ W.heap[(q7)]? = some (.cells (bcells L7) 38 (0, 0))) (by kernel_rfl) (⟨BE.out.drew, G3.out, G7.out⟩) (fun hS => ?_)
                        have hb0 : Below wc.heap.size wc wc.drew := (Below.refl _ _).drew
                        have qG3 := (hb0.block _ (blk_lt G3.out)).trans G3.out
                        have qG4 := (hb0.block _ (blk_lt G4.out)).trans G4.out
                        have qG5 := (hb0.block _ (blk_lt G5.out)).trans G5.out
                        have qG7 := (hb0.block _ (blk_lt G7.out)).trans G7.out
                        have qG9 := (hb0.block _ (blk_lt G9.out)).trans G9.out
                        have qG11 := (hb0.block _ (blk_lt G11.out)).trans G11.out
                        clear hb0 G3 G4 G5 G7 G9 G11
                        generalize wc.drew = Wbs at hS qG3 qG4 qG5 qG7 qG9 qG11 ⊢
                        have G3 := Lib.hid qG3
                        have G4 := Lib.hid qG4
                        have G5 := Lib.hid qG5
                        have G7 := Lib.hid qG7
                        have G9 := Lib.hid qG9
                        have G11 := Lib.hid qG11
                        clear qG3 qG4 qG5 qG7 qG9 qG11
                        refine' wpAnyH_take (i := 0) ?h1x0b ?hsx0b ?hfx0b ?hrx0b ?hQx0b (Or.inl ⟨?hwx0b, ?hyx0b⟩) hS ?restx0b
                        case h1x0b => (simp only [List.getElem?_toArray, List.getElem?_cons_zero]; rfl)
                        case hsx0b => kernel_rfl
                        case hfx0b => kernel_rfl
                        case hrx0b => kernel_rfl
                        case hQx0b => exact fun _ _ _ h => h
                        case hwx0b => rfl
                        case hyx0b =>
                          intro W hW
                          go_simp
                          try with_reducible rfl
                        simp only [Act.put, List.setIfInBounds_toArray, List.set_cons_succ, List.set_cons_zero]
                        refine' wpAnyH_take (i := 1) ?h1x1b ?hsx1b ?hfx1b ?hrx1b ?hQx1b (Or.inl ⟨?hwx1b, ?hyx1b⟩) hS ?restx1b
                        case h1x1b => (simp only [List.getElem?_toArray, List.getElem?_cons_succ, List.getElem?_cons_zero]; rfl)
                        case hsx1b => kernel_rfl
                        case hfx1b => kernel_rfl
                        case hrx1b => kernel_rfl
                        case hQx1b => exact fun _ _ _ h => h
                        case hwx1b => rfl
                        case hyx1b =>
                          intro W hW
                          go_simp
                          try with_reducible rfl
                        simp only [Act.put, List.setIfInBounds_toArray, List.set_cons_succ, List.set_cons_zero]
                        refine' wpAnyH_take (i := 2) ?h1x2b ?hsx2b ?hfx2b ?hrx2b ?hQx2b (Or.inr ⟨?hwx2b, rfl⟩) hS ?restx2b
                        case h1x2b => (simp only [List.getElem?_toArray, List.getElem?_cons_succ, List.getElem?_cons_zero]; rfl)
                        case hsx2b => kernel_rfl
                        case hfx2b => kernel_rfl
                        case hrx2b => kernel_rfl
                        case hQx2b => exact fun _ _ _ h => h
                        case hwx2b => rfl
                        simp only [Act.put, List.setIfInBounds_toArray, List.set_cons_succ, List.set_cons_zero]
                        refine' wpAnyH_take (i := 4) ?h1x4b ?hsx4b ?hfx4b ?hrx4b ?hQx4b (Or.inr ⟨?hwx4b, rfl⟩) hS ?restx4b
                        case h1x4b => (simp only [List.getElem?_toArray, List.getElem?_cons_succ, List.getElem?_cons_zero]; rfl)
                        case hsx4b => kernel_rfl
                        case hfx4b => kernel_rfl
                        case hrx4b => kernel_rfl
                        case hQx4b => exact fun _ _ _ h => h
                        case hwx4b => rfl
                        simp only [Act.put, List.setIfInBounds_toArray, List.set_cons_succ, List.set_cons_zero]
                        refine' wpAnyH_take (i := 5) ?h1x5b ?hsx5b ?hfx5b ?hrx5b ?hQx5b (Or.inr ⟨?hwx5b, rfl⟩) hS ?restx5b
                        case h1x5b => (simp only [List.getElem?_toArray, List.getElem?_cons_succ, List.getElem?_cons_zero]; rfl)
                        case hsx5b => kernel_rfl
                        case hfx5b => kernel_rfl
                        case hrx5b => kernel_rfl
                        case hQx5b => exact fun _ _ _ h => h
                        case hwx5b => rfl
                        simp only [Act.put, List.setIfInBounds_toArray, List.set_cons_succ, List.set_cons_zero]
                        refine' wpAnyH_take (i := 10) ?h1x10b ?hsx10b ?hfx10b ?hrx10b ?hQx10b (Or.inr ⟨?hwx10b, rfl⟩) hS ?restx10b
                        case h1x10b => (simp only [List.getElem?_toArray, List.getElem?_cons_succ, List.getElem?_cons_zero]; rfl)
                        case hsx10b => kernel_rfl
                        case hfx10b => kernel_rfl
                        case hrx10b => kernel_rfl
                        case hQx10b => exact fun _ _ _ h => h
                        case hwx10b => rfl
                        simp only [Act.put, List.setIfInBounds_toArray, List.set_cons_succ, List.set_cons_zero]
                        refine' wpAnyH_take (i := 3) ?h1x3b ?hsx3b ?hfx3b ?hrx3b ?hQx3b (Or.inr ⟨?hwx3b, rfl⟩) hS ?restx3b
                        case h1x3b => (simp only [List.getElem?_toArray, List.getElem?_cons_succ, List.getElem?_cons_zero]; rfl)
                        case hsx3b => kernel_rfl
                        case hfx3b => kernel_rfl
                        case hrx3b => kernel_rfl
                        case hQx3b => exact fun _ _ _ h => h
                        case hwx3b => rfl
                        simp only [Act.put, List.setIfInBounds_toArray, List.set_cons_succ, List.set_cons_zero]
                        refine' wpAnyH_take (i := 6) ?h1x6b ?hsx6b ?hfx6b ?hrx6b ?hQx6b (Or.inr ⟨?hwx6b, rfl⟩) hS ?restx6b
                        case h1x6b => (simp only [List.getElem?_toArray, List.getElem?_cons_succ, List.getElem?_cons_zero]; rfl)
                        case hsx6b => kernel_rfl
                        case hfx6b => kernel_rfl
                        case hrx6b => kernel_rfl
                        case hQx6b => exact fun _ _ _ h => h
                        case hwx6b => rfl
                        simp only [Act.put, List.setIfInBounds_toArray, List.set_cons_succ, List.set_cons_zero]
                        refine' wpAnyH_take (i := 11) ?h1x11b ?hsx11b ?hfx11b ?hrx11b ?hQx11b (Or.inr ⟨?hwx11b, rfl⟩) hS ?restx11b
                        case h1x11b => (simp only [List.getElem?_toArray, List.getElem?_cons_succ, List.getElem?_cons_zero]; rfl)
                        case hsx11b => kernel_rfl
                        case hfx11b => kernel_rfl
                        case hrx11b => kernel_rfl
                        case hQx11b => exact fun _ _ _ h => h
                        case hwx11b => rfl
                        simp only [Act.put, List.setIfInBounds_toArray, List.set_cons_succ, List.set_cons_zero]
                        refine' wpAnyH_take (i := 7) ?h1x7b ?hsx7b ?hfx7b ?hrx7b ?hQx7b (Or.inr ⟨?hwx7b, rfl⟩) hS ?restx7b
                        case h1x7b => (simp only [List.getElem?_toArray, List.getElem?_cons_succ, List.getElem?_cons_zero]; rfl)
                        case hsx7b => kernel_rfl
                        case hfx7b => kernel_rfl
                        case hrx7b => kernel_rfl
                        case hQx7b => exact fun _ _ _ h => h
                        case hwx7b => rfl
                        simp only [Act.put, List.setIfInBounds_toArray, List.set_cons_succ, List.set_cons_zero]
                        refine' wpAnyH_take (i := 12) ?h1x12b ?hsx12b ?hfx12b ?hrx12b ?hQx12b (Or.inr ⟨?hwx12b, rfl⟩) hS ?restx12b
                        case h1x12b => (simp only [List.getElem?_toArray, List.getElem?_cons_succ, List.getElem?_cons_zero]; rfl)
                        case hsx12b => kernel_rfl
                        case hfx12b => kernel_rfl
                        case hrx12b => kernel_rfl
                        case hQx12b => exact fun _ _ _ h => h
                        case hwx12b => rfl
                        simp only [Act.put, List.setIfInBounds_toArray, List.set_cons_succ, List.set_cons_zero]
                        refine' wpAnyH_take (i := 8) ?h1x8b ?hsx8b ?hfx8b ?hrx8b ?hQx8b (Or.inr ⟨?hwx8b, rfl⟩) hS ?restx8b
                        case h1x8b => (simp only [List.getElem?_toArray, List.getElem?_cons_succ, List.getElem?_cons_zero]; rfl)
                        case hsx8b => kernel_rfl
                        case hfx8b => kernel_rfl
                        case hrx8b => kernel_rfl
                        case hQx8b => exact fun _ _ _ h => h
                        case hwx8b => rfl
                        simp only [Act.put, List.setIfInBounds_toArray, List.set_cons_succ, List.set_cons_zero]
                        refine' wpAnyH_take (i := 9) ?h1x9b ?hsx9b ?hfx9b ?hrx9b ?hQx9b (Or.inr ⟨?hwx9b, rfl⟩) hS ?restx9b
                        case h1x9b => (simp only [List.getElem?_toArray, List.getElem?_cons_succ, List.getElem?_cons_zero]; rfl)
                        case hsx9b => kernel_rfl
                        case hfx9b => kernel_rfl
                        case hrx9b => kernel_rfl
                        case hQx9b => exact fun _ _ _ h => h
                        case hwx9b => rfl
                        simp only [Act.put, List.setIfInBounds_toArray, List.set_cons_succ, List.set_cons_zero]
                        refine' wpAnyH_take (i := 13) ?h1x13b ?hsx13b ?hfx13b ?hrx13b ?hQx13b (Or.inr ⟨?hwx13b, rfl⟩) hS ?restx13b
                        case h1x13b => (simp only [List.getElem?_toArray, List.getElem?_cons_succ, List.getElem?_cons_zero]; rfl)
                        case hsx13b => kernel_rfl
                        case hfx13b => kernel_rfl
                        case hrx13b => kernel_rfl
                        case hQx13b => exact fun _ _ _ h => h
                        case hwx13b => rfl
                        simp only [Act.put, List.setIfInBounds_toArray, List.set_cons_succ, List.set_cons_zero]
                        refine' wpAnyH_take (i := 14) ?h1x14b ?hsx14b ?hfx14b ?hrx14b ?hQx14b (Or.inr ⟨?hwx14b, rfl⟩) hS ?restx14b
                        case h1x14b => (simp only [List.getElem?_toArray, List.getElem?_cons_succ, List.getElem?_cons_zero]; rfl)
                        case hsx14b => kernel_rfl
                        case hfx14b => kernel_rfl
                        case hrx14b => kernel_rfl
                        case hQx14b => exact fun _ _ _ h => h
                        case hwx14b => rfl
                        simp only [Act.put, List.setIfInBounds_toArray, List.set_cons_succ, List.set_cons_zero]
                        refine' wpAnyH_take (i := 15) ?h1x15b ?hsx15b ?hfx15b ?hrx15b ?hQx15b (Or.inr ⟨?hwx15b, rfl⟩) hS ?restx15b
                        case h1x15b => (simp only [List.getElem?_toArray, List.getElem?_cons_succ, List.getElem?_cons_zero]; rfl)
                        case hsx15b => kernel_rfl
                        case hfx15b => kernel_rfl
                        case hrx15b => kernel_rfl
                        case hQx15b => exact fun _ _ _ h => h
                        case hwx15b => rfl
                        simp only [Act.put, List.setIfInBounds_toArray, List.set_cons_succ, List.set_cons_zero]
                        refine' wpAnyH_take (i := 16) ?h1x16b ?hsx16b ?hfx16b ?hrx16b ?hQx16b (Or.inr ⟨?hwx16b, rfl⟩) hS ?restx16b
                        case h1x16b => (simp only [List.getElem?_toArray, List.getElem?_cons_succ, List.getElem?_cons_zero]; rfl)
                        case hsx16b => kernel_rfl
                        case hfx16b => kernel_rfl
                        case hrx16b => kernel_rfl
                        case hQx16b => exact fun _ _ _ h => h
                        case hwx16b => rfl
                        simp only [Act.put, List.setIfInBounds_toArray, List.set_cons_succ, List.set_cons_zero]
                        refine' wpAnyH_take (i := 17) ?h1x17b ?hsx17b ?hfx17b ?hrx17b ?hQx17b (Or.inl ⟨?hwx17b, ?hyx17b⟩) hS ?restx17b
                        case h1x17b => (simp only [List.getElem?_toArray, List.getElem?_cons_succ, List.getElem?_cons_zero]; rfl)
                        case hsx17b => kernel_rfl
                        case hfx17b => kernel_rfl
                        case hrx17b => kernel_rfl
                        case hQx17b => exact fun _ _ _ h => h
                        case hwx17b => rfl
                        case hyx17b =>
                          intro W hW
                          go_simp
                          try with_reducible rfl
                        simp only [Act.put, List.setIfInBounds_toArray, List.set_cons_succ, List.set_cons_zero]
                        refine wpAnyH_done (by kernel_rfl) ?_ _
                        go_wp2_with fail
                        go_meet
                        exact ⟨rfl, hS.1, G3.out, G4.out, G5.out, G7.out, G9.out, G11.out⟩
                  case rest =>
                    as_aux_lemma =>
                      clear BE G3 G4 G5 G7 G9 G11
                      obtain ⟨rfl, hbe, rG3, rG4, rG5, rG7, rG9, rG11⟩ := hcut
                      have BE := Lib.hid hbe
                      have G3 : Hid (_ = some (Obj.cells (ocells h s z) 55 (0, 0))) := rG3
                      have G4 : Hid (_ = some (Obj.cells (ncells tz r q c) 57 (0, 0))) := rG4
                      have G5 : Hid (_ = some (Obj.cells (bcells v) 38 (0, 0))) := rG5
                      have G7 : Hid (_ = some (Obj.cells (bcells L7) 38 (0, 0))) := rG7
                      have G9 : Hid (_ = some (Obj.cells (bcells L9) 38 (0, 0))) := rG9
                      have G11 : Hid (_ = some (Obj.cells #[.int .u8 (b2i h)] 5 (0, 0))) := rG11
                      clear hbe rG3 rG4 rG5 rG7 rG9 rG11
                      go_upto_region 12 with (fail)
                      go_cut [145] (fun s145 wx => s145 = .bool false ∧ Below w.heap.size w wx ∧ Row wx (w.heap.size) 55 (ocells h s z) ∧ Row wx (w.heap.size + 1) 57 (ncells tz r q c) ∧ Row wx (w.heap.size + 1 + 1) 38 (bcells v) ∧ Row wx (q7) 38 (bcells L7) ∧ Row wx (q9) 38 (bcells L9) ∧ Row wx (q11) 5 #[.int .u8 (b2i h)])
                      case first =>
                        as_aux_lemma =>
                          cases mn with
                          | true =>
                            have F9 := Lib.hid (HT9.out rfl).2
                            obtain ⟨t1, t2, t3⟩ := T5.out rfl
                            have T5a := Lib.hid t1
                            have T5b := Lib.hid t2
                            have T5c := Lib.hid t3
                            clear t1 t2 t3
                            have bm : nMay r q c := of_decide_eq_true MN.out
                            obtain ⟨⟨br0, br1⟩, ⟨bq0, bq1⟩, bc0, bc1⟩ := bm
                            have WR := Lib.hid (wrap65 br0 (Int.le_trans br1 (by decide)))
                            have WQ := Lib.hid (wrap65 bq0 (Int.le_trans bq1 (by decide)))
                            have WC := Lib.hid (wrap65 bc0 (Int.le_trans bc1 (by decide)))
                            clear HT7 HF7 HT9 HF9 HR HN T5
                            refine wp_region_held_drew (S := fun W => Below w.heap.size w W ∧ W.heap[(w.heap.size + 1)]? = some (.cells (ncells tz r q c) 57 (0, 0)) ∧ W.heap[(q9)]? = some (.cells (bcells L9) 38 (0, 0))) (by kernel_rfl) (⟨BE.out.drew, G4.out, G9.out⟩) (fun hS => ?_)
                            have hb0 : Below wc.heap.size wc wc.drew := (Below.refl _ _).drew
                            have qG3 := (hb0.block _ (blk_lt G3.out)).trans G3.out
                            have qG4 := (hb0.block _ (blk_lt G4.out)).trans G4.out
                            have qG5 := (hb0.block _ (blk_lt G5.out)).trans G5.out
                            have qG7 := (hb0.block _ (blk_lt G7.out)).trans G7.out
                            have qG9 := (hb0.block _ (blk_lt G9.out)).trans G9.out
                            have qG11 := (hb0.block _ (blk_lt G11.out)).trans G11.out
                            clear hb0 G3 G4 G5 G7 G9 G11
                            generalize wc.drew = Wcs at hS qG3 qG4 qG5 qG7 qG9 qG11 ⊢
                            have G3 := Lib.hid qG3
                            have G4 := Lib.hid qG4
                            have G5 := Lib.hid qG5
                            have G7 := Lib.hid qG7
                            have G9 := Lib.hid qG9
                            have G11 := Lib.hid qG11
                            clear qG3 qG4 qG5 qG7 qG9 qG11
                            refine' wpAnyH_take (i := 0) ?h1x0c ?hsx0c ?hfx0c ?hrx0c ?hQx0c (Or.inl ⟨?hwx0c, ?hyx0c⟩) hS ?restx0c
                            case h1x0c => (simp only [List.getElem?_toArray, List.getElem?_cons_zero]; rfl)
                            case hsx0c => kernel_rfl
                            case hfx0c => kernel_rfl
                            case hrx0c => kernel_rfl
                            case hQx0c => exact fun _ _ _ h => h
                            case hwx0c => rfl
                            case hyx0c =>
                              intro W hW
                              go_simp
                              try with_reducible rfl
                            simp only [Act.put, List.setIfInBounds_toArray, List.set_cons_succ, List.set_cons_zero]
                            refine' wpAnyH_take (i := 1) ?h1x1c ?hsx1c ?hfx1c ?hrx1c ?hQx1c (Or.inl ⟨?hwx1c, ?hyx1c⟩) hS ?restx1c
                            case h1x1c => (simp only [List.getElem?_toArray, List.getElem?_cons_succ, List.getElem?_cons_zero]; rfl)
                            case hsx1c => kernel_rfl
                            case hfx1c => kernel_rfl
                            case hrx1c => kernel_rfl
                            case hQx1c => exact fun _ _ _ h => h
                            case hwx1c => rfl
                            case hyx1c =>
                              intro W hW
                              go_simp
                              try with_reducible rfl
                            simp only [Act.put, List.setIfInBounds_toArray, List.set_cons_succ, List.set_cons_zero]
                            refine' wpAnyH_take (i := 2) ?h1x2c ?hsx2c ?hfx2c ?hrx2c ?hQx2c (Or.inl ⟨?hwx2c, ?hyx2c⟩) hS ?restx2c
                            case h1x2c => (simp only [List.getElem?_toArray, List.getElem?_cons_succ, List.getElem?_cons_zero]; rfl)
                            case hsx2c => kernel_rfl
                            case hfx2c => kernel_rfl
                            case hrx2c => kernel_rfl
                            case hQx2c => exact fun _ _ _ h => h
                            case hwx2c => rfl
                            case hyx2c =>
                              intro W hW
                              go_simp
                              try with_reducible rfl
                            simp only [Act.put, List.setIfInBounds_toArray, List.set_cons_succ, List.set_cons_zero]
                            refine' wpAnyH_take (i := 4) ?h1x4c ?hsx4c ?hfx4c ?hrx4c ?hQx4c (Or.inl ⟨?hwx4c, ?hyx4c⟩) hS ?restx4c
                            case h1x4c => (simp only [List.getElem?_toArray, List.getElem?_cons_succ, List.getElem?_cons_zero]; rfl)
                            case hsx4c => kernel_rfl
                            case hfx4c => kernel_rfl
                            case hrx4c => kernel_rfl
                            case hQx4c => exact fun _ _ _ h => h
                            case hwx4c => rfl
                            case hyx4c =>
                              intro W hW
                              go_simp
                              try with_reducible rfl
                            simp only [Act.put, List.setIfInBounds_toArray, List.set_cons_succ, List.set_cons_zero]
                            refine' wpAnyH_take (i := 6) ?h1x6c ?hsx6c ?hfx6c ?hrx6c ?hQx6c (Or.inl ⟨?hwx6c, ?hyx6c⟩) hS ?restx6c
                            case h1x6c => (simp only [List.getElem?_toArray, List.getElem?_cons_succ, List.getElem?_cons_zero]; rfl)
                            case hsx6c => kernel_rfl
                            case hfx6c => kernel_rfl
                            case hrx6c => kernel_rfl
                            case hQx6c => exact fun _ _ _ h => h
                            case hwx6c => rfl
                            case hyx6c =>
                              intro W hW
                              go_simp
                              try with_reducible rfl
                            simp only [Act.put, List.setIfInBounds_toArray, List.set_cons_succ, List.set_cons_zero]
                            refine' wpAnyH_take (i := 10) ?h1x10c ?hsx10c ?hfx10c ?hrx10c ?hQx10c (Or.inl ⟨?hwx10c, ?hyx10c⟩) hS ?restx10c
                            case h1x10c => (simp only [List.getElem?_toArray, List.getElem?_cons_succ, List.getElem?_cons_zero]; rfl)
                            case hsx10c => kernel_rfl
                            case hfx10c => kernel_rfl
                            case hrx10c => kernel_rfl
                            case hQx10c => exact fun _ _ _ h => h
                            case hwx10c => rfl
                            case hyx10c =>
                              intro W hW
                              go_simp
                              try with_reducible rfl
                            simp only [Act.put, List.setIfInBounds_toArray, List.set_cons_succ, List.set_cons_zero]
                            refine' wpAnyH_take (i := 14) ?h1x14c ?hsx14c ?hfx14c ?hrx14c ?hQx14c (Or.inl ⟨?hwx14c, ?hyx14c⟩) hS ?restx14c
                            case h1x14c => (simp only [List.getElem?_toArray, List.getElem?_cons_succ, List.getElem?_cons_zero]; rfl)
                            case hsx14c => kernel_rfl
                            case hfx14c => kernel_rfl
                            case hrx14c => kernel_rfl
                            case hQx14c => exact fun _ _ _ h => h
                            case hwx14c => rfl
                            case hyx14c =>
                              intro W hW
                              go_simp
                              try with_reducible rfl
                            simp only [Act.put, List.setIfInBounds_toArray, List.set_cons_succ, List.set_cons_zero]
                            refine' wpAnyH_take (i := 3) ?h1x3c ?hsx3c ?hfx3c ?hrx3c ?hQx3c (Or.inl ⟨?hwx3c, ?hyx3c⟩) hS ?restx3c
                            case h1x3c => (simp only [List.getElem?_toArray, List.getElem?_cons_succ, List.getElem?_cons_zero]; rfl)
                            case hsx3c => kernel_rfl
                            case hfx3c => kernel_rfl
                            case hrx3c => kernel_rfl
                            case hQx3c => exact fun _ _ _ h => h
                            case hwx3c => rfl
                            case hyx3c =>
                              intro W hW
                              have cv := (SS.out W _ _ YL9.out NL9.out hW.2.2).str
                              go_simp
                              try with_reducible rfl
                            simp only [Act.put, List.setIfInBounds_toArray, List.set_cons_succ, List.set_cons_zero]
                            refine' wpAnyH_take (i := 5) ?h1x5c ?hsx5c ?hfx5c ?hrx5c ?hQx5c (Or.inl ⟨?hwx5c, ?hyx5c⟩) hS ?restx5c
                            case h1x5c => (simp only [List.getElem?_toArray, List.getElem?_cons_succ, List.getElem?_cons_zero]; rfl)
                            case hsx5c => kernel_rfl
                            case hfx5c => kernel_rfl
                            case hrx5c => kernel_rfl
                            case hQx5c => exact fun _ _ _ h => h
                            case hwx5c => rfl
                            case hyx5c =>
                              intro W hW
                              go_simp
                              try with_reducible rfl
                            simp only [Act.put, List.setIfInBounds_toArray, List.set_cons_succ, List.set_cons_zero]
                            refine' wpAnyH_take (i := 7) ?h1x7c ?hsx7c ?hfx7c ?hrx7c ?hQx7c (Or.inl ⟨?hwx7c, ?hyx7c⟩) hS ?restx7c
                            case h1x7c => (simp only [List.getElem?_toArray, List.getElem?_cons_succ, List.getElem?_cons_zero]; rfl)
                            case hsx7c => kernel_rfl
                            case hfx7c => kernel_rfl
                            case hrx7c => kernel_rfl
                            case hQx7c => exact fun _ _ _ h => h
                            case hwx7c => rfl
                            case hyx7c =>
                              intro W hW
                              have dd := (C4.out _ hW.2.1).1.1
                              go_simp
                              try with_reducible rfl
                            simp only [Act.put, List.setIfInBounds_toArray, List.set_cons_succ, List.set_cons_zero]
                            refine' wpAnyH_take (i := 11) ?h1x11c ?hsx11c ?hfx11c ?hrx11c ?hQx11c (Or.inl ⟨?hwx11c, ?hyx11c⟩) hS ?restx11c
                            case h1x11c => (simp only [List.getElem?_toArray, List.getElem?_cons_succ, List.getElem?_cons_zero]; rfl)
                            case hsx11c => kernel_rfl
                            case hfx11c => kernel_rfl
                            case hrx11c => kernel_rfl
                            case hQx11c => exact fun _ _ _ h => h
                            case hwx11c => rfl
                            case hyx11c =>
                              intro W hW
                              have dd := (C4.out _ hW.2.1).1.2.1
                              go_simp
                              try with_reducible rfl
                            simp only [Act.put, List.setIfInBounds_toArray, List.set_cons_succ, List.set_cons_zero]
                            refine' wpAnyH_take (i := 15) ?h1x15c ?hsx15c ?hfx15c ?hrx15c ?hQx15c (Or.inl ⟨?hwx15c, ?hyx15c⟩) hS ?restx15c
                            case h1x15c => (simp only [List.getElem?_toArray, List.getElem?_cons_succ, List.getElem?_cons_zero]; rfl)
                            case hsx15c => kernel_rfl
                            case hfx15c => kernel_rfl
                            case hrx15c => kernel_rfl
                            case hQx15c => exact fun _ _ _ h => h
                            case hwx15c => rfl
                            case hyx15c =>
                              intro W hW
                              have dd := (C4.out _ hW.2.1).1.2.2
                              go_simp
                              try with_reducible rfl
                            simp only [Act.put, List.setIfInBounds_toArray, List.set_cons_succ, List.set_cons_zero]
                            refine' wpAnyH_take (i := 8) ?h1x8c ?hsx8c ?hfx8c ?hrx8c ?hQx8c (Or.inl ⟨?hwx8c, ?hyx8c⟩) hS ?restx8c
                            case h1x8c => (simp only [List.getElem?_toArray, List.getElem?_cons_succ, List.getElem?_cons_zero]; rfl)
                            case hsx8c => kernel_rfl
                            case hfx8c => kernel_rfl
                            case hrx8c => kernel_rfl
                            case hQx8c => exact fun _ _ _ h => h
                            case hwx8c => rfl
                            case hyx8c =>
                              intro W hW
                              have dd := WR.out
                              go_simp
                              try with_reducible rfl
                            simp only [Act.put, List.setIfInBounds_toArray, List.set_cons_succ, List.set_cons_zero]
                            refine' wpAnyH_take (i := 12) ?h1x12c ?hsx12c ?hfx12c ?hrx12c ?hQx12c (Or.inl ⟨?hwx12c, ?hyx12c⟩) hS ?restx12c
                            case h1x12c => (simp only [List.getElem?_toArray, List.getElem?_cons_succ, List.getElem?_cons_zero]; rfl)
                            case hsx12c => kernel_rfl
                            case hfx12c => kernel_rfl
                            case hrx12c => kernel_rfl
                            case hQx12c => exact fun _ _ _ h => h
                            case hwx12c => rfl
                            case hyx12c =>
                              intro W hW
                              have dd := WQ.out
                              go_simp
                              try with_reducible rfl
                            simp only [Act.put, List.setIfInBounds_toArray, List.set_cons_succ, List.set_cons_zero]
                            refine' wpAnyH_take (i := 16) ?h1x16c ?hsx16c ?hfx16c ?hrx16c ?hQx16c (Or.inl ⟨?hwx16c, ?hyx16c⟩) hS ?restx16c
                            case h1x16c => (simp only [List.getElem?_toArray, List.getElem?_cons_succ, List.getElem?_cons_zero]; rfl)
                            case hsx16c => kernel_rfl
                            case hfx16c => kernel_rfl
                            case hrx16c => kernel_rfl
                            case hQx16c => exact fun _ _ _ h => h
                            case hwx16c => rfl
                            case hyx16c =>
                              intro W hW
                              have dd := WC.out
                              go_simp
                              try with_reducible rfl
                            simp only [Act.put, List.setIfInBounds_toArray, List.set_cons_succ, List.set_cons_zero]
                            refine wpAnyH_ready (rs := [9]) (by kernel_rfl) (by simp) ?_
                            refine' (AllReadyH.cons ?hoc9c (fun K hK => ?stc9c) AllReadyH.nil)
                            case hoc9c => (simp only [List.getElem?_toArray, List.getElem?_cons_succ, List.getElem?_cons_zero]; rfl)
                            go_simp
                            refine (T5a.out Wcs).mono ?_
                            rintro e Wcx9 ⟨xa, ca, rfl, hs, hb⟩
                            have G3 := Lib.hid ((hb.block _ (blk_lt G3.out)).trans G3.out)
                            have G4 := Lib.hid ((hb.block _ (blk_lt G4.out)).trans G4.out)
                            have G5 := Lib.hid ((hb.block _ (blk_lt G5.out)).trans G5.out)
                            have G7 := Lib.hid ((hb.block _ (blk_lt G7.out)).trans G7.out)
                            have G9 := Lib.hid ((hb.block _ (blk_lt G9.out)).trans G9.out)
                            have G11 := Lib.hid ((hb.block _ (blk_lt G11.out)).trans G11.out)
                            have Sa := Lib.hid hs
                            clear hs
                            go_wp2_with fail
                            refine hK.out _ _ (⟨hS.1.trans (hb.mono hS.1.size), (hb.block _ (blk_lt hS.2.1)).trans hS.2.1, (hb.block _ (blk_lt hS.2.2)).trans hS.2.2⟩) (fun hHeld => ?_)
                            clear hK K
                            try simp only [Act.put, List.setIfInBounds_toArray, List.set_cons_succ, List.set_cons_zero]
                            clear hS
                            have hS := hHeld
                            clear hHeld
                            clear hb
                            refine wpAnyH_ready (rs := [13]) (by kernel_rfl) (by simp) ?_
                            refine' (AllReadyH.cons ?hoc13cx9 (fun K hK => ?stc13cx9) AllReadyH.nil)
                            case hoc13cx9 => (simp only [List.getElem?_toArray, List.getElem?_cons_succ, List.getElem?_cons_zero]; rfl)
                            go_simp
                            refine (T5b.out Wcx9).mono ?_
                            rintro e Wcx9x13 ⟨xb, cb, rfl, hs, hb⟩
                            have G3 := Lib.hid ((hb.block _ (blk_lt G3.out)).trans G3.out)
                            have G4 := Lib.hid ((hb.block _ (blk_lt G4.out)).trans G4.out)
                            have G5 := Lib.hid ((hb.block _ (blk_lt G5.out)).trans G5.out)
                            have G7 := Lib.hid ((hb.block _ (blk_lt G7.out)).trans G7.out)
                            have G9 := Lib.hid ((hb.block _ (blk_lt G9.out)).trans G9.out)
                            have G11 := Lib.hid ((hb.block _ (blk_lt G11.out)).trans G11.out)
                            have Sa := Lib.hid (Sa.out.below hb)
                            have Sb := Lib.hid hs
                            clear hs
                            go_wp2_with fail
                            refine hK.out _ _ (⟨hS.1.trans (hb.mono hS.1.size), (hb.block _ (blk_lt hS.2.1)).trans hS.2.1, (hb.block _ (blk_lt hS.2.2)).trans hS.2.2⟩) (fun hHeld => ?_)
                            clear hK K
                            try simp only [Act.put, List.setIfInBounds_toArray, List.set_cons_succ, List.set_cons_zero]
                            clear hS
                            have hS := hHeld
                            clear hHeld
                            clear hb
                            refine wpAnyH_ready (rs := [17]) (by kernel_rfl) (by simp) ?_
                            refine' (AllReadyH.cons ?hoc17cx9x13 (fun K hK => ?stc17cx9x13) AllReadyH.nil)
                            case hoc17cx9x13 => (simp only [List.getElem?_toArray, List.getElem?_cons_succ, List.getElem?_cons_zero]; rfl)
                            go_simp
                            refine (T5c.out Wcx9x13).mono ?_
                            rintro e Wcx9x13x17 ⟨xc, cc, rfl, hs, hb⟩
                            have G3 := Lib.hid ((hb.block _ (blk_lt G3.out)).trans G3.out)
                            have G4 := Lib.hid ((hb.block _ (blk_lt G4.out)).trans G4.out)
                            have G5 := Lib.hid ((hb.block _ (blk_lt G5.out)).trans G5.out)
                            have G7 := Lib.hid ((hb.block _ (blk_lt G7.out)).trans G7.out)
                            have G9 := Lib.hid ((hb.block _ (blk_lt G9.out)).trans G9.out)
                            have G11 := Lib.hid ((hb.block _ (blk_lt G11.out)).trans G11.out)
                            have Sa := Lib.hid (Sa.out.below hb)
                            have Sb := Lib.hid (Sb.out.below hb)
                            have Sc := Lib.hid hs
                            clear hs
                            go_wp2_with fail
                            refine hK.out _ _ (⟨hS.1.trans (hb.mono hS.1.size), (hb.block _ (blk_lt hS.2.1)).trans hS.2.1, (hb.block _ (blk_lt hS.2.2)).trans hS.2.2⟩) (fun hHeld => ?_)
                            clear hK K
                            try simp only [Act.put, List.setIfInBounds_toArray, List.set_cons_succ, List.set_cons_zero]
                            clear hS
                            have hS := hHeld
                            clear hHeld
                            clear hb
                            refine wpAnyH_ready (rs := [18]) (by kernel_rfl) (by simp) ?_
                            refine' (AllReadyH.cons ?hoc18cx9x13x17 (fun K hK => ?stc18cx9x13x17) AllReadyH.nil)
                            case hoc18cx9x13x17 => (simp only [List.getElem?_toArray, List.getElem?_cons_succ, List.getElem?_cons_zero]; rfl)
                            go_simp
                            have hb := (Below.refl Wcx9x13x17.heap.size Wcx9x13x17).alloc (Nat.le_refl _) (.cells #[.slice (some ⟨w.heap.size + 1, 0, none⟩) 32 32, .slice xa 2 ca, .slice xb 2 cb, .slice xc 1 cc] 43)
                            refine hK.out _ _ (⟨hS.1.trans (hb.mono hS.1.size), (hb.block _ (blk_lt hS.2.1)).trans hS.2.1, (hb.block _ (blk_lt hS.2.2)).trans hS.2.2⟩) (fun hHeld => ?_)
                            clear hK K
                            try simp only [Act.put, List.setIfInBounds_toArray, List.set_cons_succ, List.set_cons_zero]
                            have qGP := heap_alloc_new Wcx9x13x17 (.cells #[.slice (some ⟨w.heap.size + 1, 0, none⟩) 32 32, .slice xa 2 ca, .slice xb 2 cb, .slice xc 1 cc] 43)
                            have hgp := hS.1.size
                            have qG3 := (hb.block _ (blk_lt G3.out)).trans G3.out
                            have qG4 := (hb.block _ (blk_lt G4.out)).trans G4.out
                            have qG5 := (hb.block _ (blk_lt G5.out)).trans G5.out
                            have qG7 := (hb.block _ (blk_lt G7.out)).trans G7.out
                            have qG9 := (hb.block _ (blk_lt G9.out)).trans G9.out
                            have qG11 := (hb.block _ (blk_lt G11.out)).trans G11.out
                            have qSa := Sa.out.below hb
                            have qSb := Sb.out.below hb
                            have qSc := Sc.out.below hb
                            clear hS
                            have hS := hHeld
                            clear hHeld
                            clear hb
                            clear G3 G4 G5 G7 G9 G11 Sa Sb Sc
                            generalize Wcx9x13x17.alloc (.cells #[.slice (some ⟨w.heap.size + 1, 0, none⟩) 32 32, .slice xa 2 ca, .slice xb 2 cb, .slice xc 1 cc] 43) = Wcx9x13x17x18 at *
                            generalize Wcx9x13x17.heap.size = gp at *
                            have G3 := Lib.hid qG3
                            have G4 := Lib.hid qG4
                            have G5 := Lib.hid qG5
                            have G7 := Lib.hid qG7
                            have G9 := Lib.hid qG9
                            have G11 := Lib.hid qG11
                            have Sa := Lib.hid qSa
                            have Sb := Lib.hid qSb
                            have Sc := Lib.hid qSc
                            have GP := Lib.hid qGP
                            clear qG3 qG4 qG5 qG7 qG9 qG11 qSa qSb qSc qGP
                            refine wpAnyH_ready (rs := [19]) (by kernel_rfl) (by simp) ?_
                            refine' (AllReadyH.cons ?hoc19cx9x13x17x18 (fun K hK => ?stc19cx9x13x17x18) AllReadyH.nil)
                            case hoc19cx9x13x17x18 => (simp only [List.getElem?_toArray, List.getElem?_cons_succ, List.getElem?_cons_zero]; rfl)
                            go_simp
                            refine (sl_full _ 4 [_, _, _, _] [tz, be 2 r, be 2 q, be 1 c] L9 F9.out rfl (by decide) (by simp [be_len, Ltz.out]) Wcx9x13x17x18 GP.out ⟨(C4.out _ G4.out).2, ne_of_len Ltz.out, Sa.out, be_ne 1 r, Sb.out, be_ne 1 q, Sc.out, be_ne 0 c, trivial⟩).mono ?_
                            rintro e Wcx9x13x17x18x19 ⟨xf, cxf, rfl, hs, hb⟩
                            have G3 := Lib.hid ((hb.block _ (blk_lt G3.out)).trans G3.out)
                            have G4 := Lib.hid ((hb.block _ (blk_lt G4.out)).trans G4.out)
                            have G5 := Lib.hid ((hb.block _ (blk_lt G5.out)).trans G5.out)
                            have G7 := Lib.hid ((hb.block _ (blk_lt G7.out)).trans G7.out)
                            have G9 := Lib.hid ((hb.block _ (blk_lt G9.out)).trans G9.out)
                            have G11 := Lib.hid ((hb.block _ (blk_lt G11.out)).trans G11.out)
                            have Sa := Lib.hid (Sa.out.below hb)
                            have Sb := Lib.hid (Sb.out.below hb)
                            have Sc := Lib.hid (Sc.out.below hb)
                            have GP := Lib.hid ((hb.block _ (blk_lt GP.out)).trans GP.out)
                            have Sf := Lib.hid hs
                            clear hs
                            go_wp2_with fail
                            refine hK.out _ _ (⟨hS.1.trans (hb.mono hS.1.size), (hb.block _ (blk_lt hS.2.1)).trans hS.2.1, (hb.block _ (blk_lt hS.2.2)).trans hS.2.2⟩) (fun hHeld => ?_)
                            clear hK K
                            try simp only [Act.put, List.setIfInBounds_toArray, List.set_cons_succ, List.set_cons_zero]
                            clear hS
                            have hS := hHeld
                            clear hHeld
                            clear hb
                            refine wpAnyH_ready (rs := [20]) (by kernel_rfl) (by simp) ?_
                            refine' (AllReadyH.cons ?hoc20cx9x13x17x18x19 (fun K hK => ?stc20cx9x13x17x18x19) AllReadyH.nil)
                            case hoc20cx9x13x17x18x19 => (simp only [List.getElem?_toArray, List.getElem?_cons_succ, List.getElem?_cons_zero]; rfl)
                            have cv := Sf.out.str
                            go_simp
                            refine hK.out _ _ hS (fun hHeld => ?_)
                            clear hK K
                            try simp only [Act.put, List.setIfInBounds_toArray, List.set_cons_succ, List.set_cons_zero]
                            clear hS
                            have hS := hHeld
                            clear hHeld
                            refine' wpAnyH_take (i := 21) ?h1x21cx9x13x17x18x19x20 ?hsx21cx9x13x17x18x19x20 ?hfx21cx9x13x17x18x19x20 ?hrx21cx9x13x17x18x19x20 ?hQx21cx9x13x17x18x19x20 (Or.inl ⟨?hwx21cx9x13x17x18x19x20, ?hyx21cx9x13x17x18x19x20⟩) hS ?restx21cx9x13x17x18x19x20
                            case h1x21cx9x13x17x18x19x20 => (simp only [List.getElem?_toArray, List.getElem?_cons_succ, List.getElem?_cons_zero]; rfl)
                            case hsx21cx9x13x17x18x19x20 => kernel_rfl
                            case hfx21cx9x13x17x18x19x20 => kernel_rfl
                            case hrx21cx9x13x17x18x19x20 => kernel_rfl
                            case hQx21cx9x13x17x18x19x20 => exact fun _ _ _ h => h
                            case hwx21cx9x13x17x18x19x20 => rfl
                            case hyx21cx9x13x17x18x19x20 =>
                              intro W hW
                              go_simp
                              try with_reducible rfl
                            simp only [Act.put, List.setIfInBounds_toArray, List.set_cons_succ, List.set_cons_zero]
                            refine' wpAnyH_take (i := 22) ?h1x22cx9x13x17x18x19x20 ?hsx22cx9x13x17x18x19x20 ?hfx22cx9x13x17x18x19x20 ?hrx22cx9x13x17x18x19x20 ?hQx22cx9x13x17x18x19x20 (Or.inl ⟨?hwx22cx9x13x17x18x19x20, ?hyx22cx9x13x17x18x19x20⟩) hS ?restx22cx9x13x17x18x19x20
                            case h1x22cx9x13x17x18x19x20 => (simp only [List.getElem?_toArray, List.getElem?_cons_succ, List.getElem?_cons_zero]; rfl)
                            case hsx22cx9x13x17x18x19x20 => kernel_rfl
                            case hfx22cx9x13x17x18x19x20 => kernel_rfl
                            case hrx22cx9x13x17x18x19x20 => kernel_rfl
                            case hQx22cx9x13x17x18x19x20 => exact fun _ _ _ h => h
                            case hwx22cx9x13x17x18x19x20 => rfl
                            case hyx22cx9x13x17x18x19x20 =>
                              intro W hW
                              go_simp
                              try with_reducible rfl
                            simp only [Act.put, List.setIfInBounds_toArray, List.set_cons_succ, List.set_cons_zero]
                            refine wpAnyH_done (by kernel_rfl) ?_ _
                            go_wp2_with fail
                            go_meet
                            exact ⟨rfl, hS.1, G3.out, G4.out, G5.out, G7.out, G9.out, G11.out⟩
                          | false =>
                            clear HT7 HF7 HT9 HF9 HR HN T5
                            refine wp_region_held_drew (S := fun W => Below w.heap.size w W ∧ W.heap[(w.heap.size + 1)]? = some (.cells (ncells tz r q c) 57 (0, 0)) ∧ W.heap[(q9)]? = some (.cells (bcells L9) 38 (0, 0))) (by kernel_rfl) (⟨BE.out.drew, G4.out, G9.out⟩) (fun hS => ?_)
                            have hb0 : Below wc.heap.size wc wc.drew := (Below.refl _ _).drew
                            have qG3 := (hb0.block _ (blk_lt G3.out)).trans G3.out
                            have qG4 := (hb0.block _ (blk_lt G4.out)).trans G4.out
                            have qG5 := (hb0.block _ (blk_lt G5.out)).trans G5.out
                            have qG7 := (hb0.block _ (blk_lt G7.out)).trans G7.out
                            have qG9 := (hb0.block _ (blk_lt G9.out)).trans G9.out
                            have qG11 := (hb0.block _ (blk_lt G11.out)).trans G11.out
                            clear hb0 G3 G4 G5 G7 G9 G11
                            generalize wc.drew = Wds at hS qG3 qG4 qG5 qG7 qG9 qG11 ⊢
                            have G3 := Lib.hid qG3
                            have G4 := Lib.hid qG4
                            have G5 := Lib.hid qG5
                            have G7 := Lib.hid qG7
                            have G9 := Lib.hid qG9
                            have G11 := Lib.hid qG11
                            clear qG3 qG4 qG5 qG7 qG9 qG11
                            refine' wpAnyH_take (i := 0) ?h1x0d ?hsx0d ?hfx0d ?hrx0d ?hQx0d (Or.inl ⟨?hwx0d, ?hyx0d⟩) hS ?restx0d
                            case h1x0d => (simp only [List.getElem?_toArray, List.getElem?_cons_zero]; rfl)
                            case hsx0d => kernel_rfl
                            case hfx0d => kernel_rfl
                            case hrx0d => kernel_rfl
                            case hQx0d => exact fun _ _ _ h => h
                            case hwx0d => rfl
                            case hyx0d =>
                              intro W hW
                              go_simp
                              try with_reducible rfl
                            simp only [Act.put, List.setIfInBounds_toArray, List.set_cons_succ, List.set_cons_zero]
                            refine' wpAnyH_take (i := 1) ?h1x1d ?hsx1d ?hfx1d ?hrx1d ?hQx1d (Or.inl ⟨?hwx1d, ?hyx1d⟩) hS ?restx1d
                            case h1x1d => (simp only [List.getElem?_toArray, List.getElem?_cons_succ, List.getElem?_cons_zero]; rfl)
                            case hsx1d => kernel_rfl
                            case hfx1d => kernel_rfl
                            case hrx1d => kernel_rfl
                            case hQx1d => exact fun _ _ _ h => h
                            case hwx1d => rfl
                            case hyx1d =>
                              intro W hW
                              go_simp
                              try with_reducible rfl
                            simp only [Act.put, List.setIfInBounds_toArray, List.set_cons_succ, List.set_cons_zero]
                            refine' wpAnyH_take (i := 2) ?h1x2d ?hsx2d ?hfx2d ?hrx2d ?hQx2d (Or.inr ⟨?hwx2d, rfl⟩) hS ?restx2d
                            case h1x2d => (simp only [List.getElem?_toArray, List.getElem?_cons_succ, List.getElem?_cons_zero]; rfl)
                            case hsx2d => kernel_rfl
                            case hfx2d => kernel_rfl
                            case hrx2d => kernel_rfl
                            case hQx2d => exact fun _ _ _ h => h
                            case hwx2d => rfl
                            simp only [Act.put, List.setIfInBounds_toArray, List.set_cons_succ, List.set_cons_zero]
                            refine' wpAnyH_take (i := 4) ?h1x4d ?hsx4d ?hfx4d ?hrx4d ?hQx4d (Or.inr ⟨?hwx4d, rfl⟩) hS ?restx4d
                            case h1x4d => (simp only [List.getElem?_toArray, List.getElem?_cons_succ, List.getElem?_cons_zero]; rfl)
                            case hsx4d => kernel_rfl
                            case hfx4d => kernel_rfl
                            case hrx4d => kernel_rfl
                            case hQx4d => exact fun _ _ _ h => h
                            case hwx4d => rfl
                            simp only [Act.put, List.setIfInBounds_toArray, List.set_cons_succ, List.set_cons_zero]
                            refine' wpAnyH_take (i := 6) ?h1x6d ?hsx6d ?hfx6d ?hrx6d ?hQx6d (Or.inr ⟨?hwx6d, rfl⟩) hS ?restx6d
                            case h1x6d => (simp only [List.getElem?_toArray, List.getElem?_cons_succ, List.getElem?_cons_zero]; rfl)
                            case hsx6d => kernel_rfl
                            case hfx6d => kernel_rfl
                            case hrx6d => kernel_rfl
                            case hQx6d => exact fun _ _ _ h => h
                            case hwx6d => rfl
                            simp only [Act.put, List.setIfInBounds_toArray, List.set_cons_succ, List.set_cons_zero]
                            refine' wpAnyH_take (i := 10) ?h1x10d ?hsx10d ?hfx10d ?hrx10d ?hQx10d (Or.inr ⟨?hwx10d, rfl⟩) hS ?restx10d
                            case h1x10d => (simp only [List.getElem?_toArray, List.getElem?_cons_succ, List.getElem?_cons_zero]; rfl)
                            case hsx10d => kernel_rfl
                            case hfx10d => kernel_rfl
                            case hrx10d => kernel_rfl
                            case hQx10d => exact fun _ _ _ h => h
                            case hwx10d => rfl
                            simp only [Act.put, List.setIfInBounds_toArray, List.set_cons_succ, List.set_cons_zero]
                            refine' wpAnyH_take (i := 14) ?h1x14d ?hsx14d ?hfx14d ?hrx14d ?hQx14d (Or.inr ⟨?hwx14d, rfl⟩) hS ?restx14d
                            case h1x14d => (simp only [List.getElem?_toArray, List.getElem?_cons_succ, List.getElem?_cons_zero]; rfl)
                            case hsx14d => kernel_rfl
                            case hfx14d => kernel_rfl
                            case hrx14d => kernel_rfl
                            case hQx14d => exact fun _ _ _ h => h
                            case hwx14d => rfl
                            simp only [Act.put, List.setIfInBounds_toArray, List.set_cons_succ, List.set_cons_zero]
                            refine' wpAnyH_take (i := 3) ?h1x3d ?hsx3d ?hfx3d ?hrx3d ?hQx3d (Or.inr ⟨?hwx3d, rfl⟩) hS ?restx3d
                            case h1x3d => (simp only [List.getElem?_toArray, List.getElem?_cons_succ, List.getElem?_cons_zero]; rfl)
                            case hsx3d => kernel_rfl
                            case hfx3d => kernel_rfl
                            case hrx3d => kernel_rfl
                            case hQx3d => exact fun _ _ _ h => h
                            case hwx3d => rfl
                            simp only [Act.put, List.setIfInBounds_toArray, List.set_cons_succ, List.set_cons_zero]
                            refine' wpAnyH_take (i := 5) ?h1x5d ?hsx5d ?hfx5d ?hrx5d ?hQx5d (Or.inr ⟨?hwx5d, rfl⟩) hS ?restx5d
                            case h1x5d => (simp only [List.getElem?_toArray, List.getElem?_cons_succ, List.getElem?_cons_zero]; rfl)
                            case hsx5d => kernel_rfl
                            case hfx5d => kernel_rfl
                            case hrx5d => kernel_rfl
                            case hQx5d => exact fun _ _ _ h => h
                            case hwx5d => rfl
                            simp only [Act.put, List.setIfInBounds_toArray, List.set_cons_succ, List.set_cons_zero]
                            refine' wpAnyH_take (i := 7) ?h1x7d ?hsx7d ?hfx7d ?hrx7d ?hQx7d (Or.inr ⟨?hwx7d, rfl⟩) hS ?restx7d
                            case h1x7d => (simp only [List.getElem?_toArray, List.getElem?_cons_succ, List.getElem?_cons_zero]; rfl)
                            case hsx7d => kernel_rfl
                            case hfx7d => kernel_rfl
                            case hrx7d => kernel_rfl
                            case hQx7d => exact fun _ _ _ h => h
                            case hwx7d => rfl
                            simp only [Act.put, List.setIfInBounds_toArray, List.set_cons_succ, List.set_cons_zero]
                            refine' wpAnyH_take (i := 11) ?h1x11d ?hsx11d ?hfx11d ?hrx11d ?hQx11d (Or.inr ⟨?hwx11d, rfl⟩) hS ?restx11d
                            case h1x11d => (simp only [List.getElem?_toArray, List.getElem?_cons_succ, List.getElem?_cons_zero]; rfl)
                            case hsx11d => kernel_rfl
                            case hfx11d => kernel_rfl
                            case hrx11d => kernel_rfl
                            case hQx11d => exact fun _ _ _ h => h
                            case hwx11d => rfl
                            simp only [Act.put, List.setIfInBounds_toArray, List.set_cons_succ, List.set_cons_zero]
                            refine' wpAnyH_take (i := 15) ?h1x15d ?hsx15d ?hfx15d ?hrx15d ?hQx15d (Or.inr ⟨?hwx15d, rfl⟩) hS ?restx15d
                            case h1x15d => (simp only [List.getElem?_toArray, List.getElem?_cons_succ, List.getElem?_cons_zero]; rfl)
                            case hsx15d => kernel_rfl
                            case hfx15d => kernel_rfl
                            case hrx15d => kernel_rfl
                            case hQx15d => exact fun _ _ _ h => h
                            case hwx15d => rfl
                            simp only [Act.put, List.setIfInBounds_toArray, List.set_cons_succ, List.set_cons_zero]
                            refine' wpAnyH_take (i := 8) ?h1x8d ?hsx8d ?hfx8d ?hrx8d ?hQx8d (Or.inr ⟨?hwx8d, rfl⟩) hS ?restx8d
                            case h1x8d => (simp only [List.getElem?_toArray, List.getElem?_cons_succ, List.getElem?_cons_zero]; rfl)
                            case hsx8d => kernel_rfl
                            case hfx8d => kernel_rfl
                            case hrx8d => kernel_rfl
                            case hQx8d => exact fun _ _ _ h => h
                            case hwx8d => rfl
                            simp only [Act.put, List.setIfInBounds_toArray, List.set_cons_succ, List.set_cons_zero]
                            refine' wpAnyH_take (i := 12) ?h1x12d ?hsx12d ?hfx12d ?hrx12d ?hQx12d (Or.inr ⟨?hwx12d, rfl⟩) hS ?restx12d
                            case h1x12d => (simp only [List.getElem?_toArray, List.getElem?_cons_succ, List.getElem?_cons_zero]; rfl)
                            case hsx12d => kernel_rfl
                            case hfx12d => kernel_rfl
                            case hrx12d => kernel_rfl
                            case hQx12d => exact fun _ _ _ h => h
                            case hwx12d => rfl
                            simp only [Act.put, List.setIfInBounds_toArray, List.set_cons_succ, List.set_cons_zero]
                            refine' wpAnyH_take (i := 16) ?h1x16d ?hsx16d ?hfx16d ?hrx16d ?hQx16d (Or.inr ⟨?hwx16d, rfl⟩) hS ?restx16d
                            case h1x16d => (simp only [List.getElem?_toArray, List.getElem?_cons_succ, List.getElem?_cons_zero]; rfl)
                            case hsx16d => kernel_rfl
                            case hfx16d => kernel_rfl
                            case hrx16d => kernel_rfl
                            case hQx16d => exact fun _ _ _ h => h
                            case hwx16d => rfl
                            simp only [Act.put, List.setIfInBounds_toArray, List.set_cons_succ, List.set_cons_zero]
                            refine' wpAnyH_take (i := 9) ?h1x9d ?hsx9d ?hfx9d ?hrx9d ?hQx9d (Or.inr ⟨?hwx9d, rfl⟩) hS ?restx9d
                            case h1x9d => (simp only [List.getElem?_toArray, List.getElem?_cons_succ, List.getElem?_cons_zero]; rfl)
                            case hsx9d => kernel_rfl
                            case hfx9d => kernel_rfl
                            case hrx9d => kernel_rfl
                            case hQx9d => exact fun _ _ _ h => h
                            case hwx9d => rfl
                            simp only [Act.put, List.setIfInBounds_toArray, List.set_cons_succ, List.set_cons_zero]
                            refine' wpAnyH_take (i := 13) ?h1x13d ?hsx13d ?hfx13d ?hrx13d ?hQx13d (Or.inr ⟨?hwx13d, rfl⟩) hS ?restx13d
                            case h1x13d => (simp only [List.getElem?_toArray, List.getElem?_cons_succ, List.getElem?_cons_zero]; rfl)
                            case hsx13d => kernel_rfl
                            case hfx13d => kernel_rfl
                            case hrx13d => kernel_rfl
                            case hQx13d => exact fun _ _ _ h => h
                            case hwx13d => rfl
                            simp only [Act.put, List.setIfInBounds_toArray, List.set_cons_succ, List.set_cons_zero]
                            refine' wpAnyH_take (i := 17) ?h1x17d ?hsx17d ?hfx17d ?hrx17d ?hQx17d (Or.inr ⟨?hwx17d, rfl⟩) hS ?restx17d
                            case h1x17d => (simp only [List.getElem?_toArray, List.getElem?_cons_succ, List.getElem?_cons_zero]; rfl)
                            case hsx17d => kernel_rfl
                            case hfx17d => kernel_rfl
                            case hrx17d => kernel_rfl
                            case hQx17d => exact fun _ _ _ h => h
                            case hwx17d => rfl
                            simp only [Act.put, List.setIfInBounds_toArray, List.set_cons_succ, List.set_cons_zero]
                            refine' wpAnyH_take (i := 18) ?h1x18d ?hsx18d ?hfx18d ?hrx18d ?hQx18d (Or.inr ⟨?hwx18d, rfl⟩) hS ?restx18d
                            case h1x18d => (simp only [List.getElem?_toArray, List.getElem?_cons_succ, List.getElem?_cons_zero]; rfl)
                            case hsx18d => kernel_rfl
                            case hfx18d => kernel_rfl
                            case hrx18d => kernel_rfl
                            case hQx18d => exact fun _ _ _ h => h
                            case hwx18d => rfl
                            simp only [Act.put, List.setIfInBounds_toArray, List.set_cons_succ, List.set_cons_zero]
                            refine' wpAnyH_take (i := 19) ?h1x19d ?hsx19d ?hfx19d ?hrx19d ?hQx19d (Or.inr ⟨?hwx19d, rfl⟩) hS ?restx19d
                            case h1x19d => (simp only [List.getElem?_toArray, List.getElem?_cons_succ, List.getElem?_cons_zero]; rfl)
                            case hsx19d => kernel_rfl
                            case hfx19d => kernel_rfl
                            case hrx19d => kernel_rfl
                            case hQx19d => exact fun _ _ _ h => h
                            case hwx19d => rfl
                            simp only [Act.put, List.setIfInBounds_toArray, List.set_cons_succ, List.set_cons_zero]
                            refine' wpAnyH_take (i := 20) ?h1x20d ?hsx20d ?hfx20d ?hrx20d ?hQx20d (Or.inr ⟨?hwx20d, rfl⟩) hS ?restx20d
                            case h1x20d => (simp only [List.getElem?_toArray, List.getElem?_cons_succ, List.getElem?_cons_zero]; rfl)
                            case hsx20d => kernel_rfl
                            case hfx20d => kernel_rfl
                            case hrx20d => kernel_rfl
                            case hQx20d => exact fun _ _ _ h => h
                            case hwx20d => rfl
                            simp only [Act.put, List.setIfInBounds_toArray, List.set_cons_succ, List.set_cons_zero]
                            refine' wpAnyH_take (i := 21) ?h1x21d ?hsx21d ?hfx21d ?hrx21d ?hQx21d (Or.inr ⟨?hwx21d, rfl⟩) hS ?restx21d
                            case h1x21d => (simp only [List.getElem?_toArray, List.getElem?_cons_succ, List.getElem?_cons_zero]; rfl)
                            case hsx21d => kernel_rfl
                            case hfx21d => kernel_rfl
                            case hrx21d => kernel_rfl
                            case hQx21d => exact fun _ _ _ h => h
                            case hwx21d => rfl
                            simp only [Act.put, List.setIfInBounds_toArray, List.set_cons_succ, List.set_cons_zero]
                            refine' wpAnyH_take (i := 22) ?h1x22d ?hsx22d ?hfx22d ?hrx22d ?hQx22d (Or.inl ⟨?hwx22d, ?hyx22d⟩) hS ?restx22d
                            case h1x22d => (simp only [List.getElem?_toArray, List.getElem?_cons_succ, List.getElem?_cons_zero]; rfl)
                            case hsx22d => kernel_rfl
                            case hfx22d => kernel_rfl
                            case hrx22d => kernel_rfl
                            case hQx22d => exact fun _ _ _ h => h
                            case hwx22d => rfl
                            case hyx22d =>
                              intro W hW
                              go_simp
                              try with_reducible rfl
                            simp only [Act.put, List.setIfInBounds_toArray, List.set_cons_succ, List.set_cons_zero]
                            refine wpAnyH_done (by kernel_rfl) ?_ _
                            go_wp2_with fail
                            go_meet
                            exact ⟨rfl, hS.1, G3.out, G4.out, G5.out, G7.out, G9.out, G11.out⟩
                      case rest =>
                        as_aux_lemma =>
                          clear BE G3 G4 G5 G7 G9 G11
                          obtain ⟨rfl, hbe, rG3, rG4, rG5, rG7, rG9, rG11⟩ := hcut
                          have BE := Lib.hid hbe
                          have G3 : Hid (_ = some (Obj.cells (ocells h s z) 55 (0, 0))) := rG3
                          have G4 : Hid (_ = some (Obj.cells (ncells tz r q c) 57 (0, 0))) := rG4
                          have G5 : Hid (_ = some (Obj.cells (bcells v) 38 (0, 0))) := rG5
                          have G7 : Hid (_ = some (Obj.cells (bcells L7) 38 (0, 0))) := rG7
                          have G9 : Hid (_ = some (Obj.cells (bcells L9) 38 (0, 0))) := rG9
                          have G11 : Hid (_ = some (Obj.cells #[.int .u8 (b2i h)] 5 (0, 0))) := rG11
                          clear hbe rG3 rG4 rG5 rG7 rG9 rG11
                          clear HT7 HF7 HT9 HF9 T5 T4 MO MN K26 K27
                          go_wp2_with (refine wpList_load_row rfl 38 (.tmp 5) rfl (w.heap.size + 1 + 1) rfl 38 (bcells v) (0, 0) _ G5.out Try.underlying38 rfl Iv.out ?_)
                          refine (K28.out _).mono ?_
                          rintro e u12 ⟨rfl, hb⟩
                          have G3' := Lib.hid ((hb.block _ (blk_lt G3.out)).trans G3.out)
                          have G4' := Lib.hid ((hb.block _ (blk_lt G4.out)).trans G4.out)
                          have G5' := Lib.hid ((hb.block _ (blk_lt G5.out)).trans G5.out)
                          have G7' := Lib.hid ((hb.block _ (blk_lt G7.out)).trans G7.out)
                          have G9' := Lib.hid ((hb.block _ (blk_lt G9.out)).trans G9.out)
                          have G11' := Lib.hid ((hb.block _ (blk_lt G11.out)).trans G11.out)
                          have BE' := Lib.hid (BE.out.trans (hb.mono BE.out.size))
                          clear hb BE G3 G4 G5 G7 G9 G11
                          have G3 := Lib.hid G3'.out
                          have G4 := Lib.hid G4'.out
                          have G5 := Lib.hid G5'.out
                          have G7 := Lib.hid G7'.out
                          have G9 := Lib.hid G9'.out
                          have G11 := Lib.hid G11'.out
                          have BE := Lib.hid BE'.out
                          clear BE' G3' G4' G5' G7' G9' G11'
                          have GN := Lib.hid (heap_alloc_new u12 (.cells (ocells false 0 (zs 32)) 55))
                          have RN := Lib.hid (alloc_setRowT u12 (ocells false 0 (zs 32)) (ocells ph ps pz) 55 _ rfl)
                          have hal : Below u12.heap.size u12 (u12.alloc (.cells (ocells ph ps pz) 55)) := (Below.refl _ _).alloc (Nat.le_refl _) _
                          have G14 := Lib.hid (heap_alloc_new u12 (.cells (ocells ph ps pz) 55))
                          have n14G3 := blk_lt G3.out
                          have n14G4 := blk_lt G4.out
                          have n14G5 := blk_lt G5.out
                          have n14G7 := blk_lt G7.out
                          have n14G9 := blk_lt G9.out
                          have n14G11 := blk_lt G11.out
                          have G3' := Lib.hid ((hal.block _ (blk_lt G3.out)).trans G3.out)
                          have G4' := Lib.hid ((hal.block _ (blk_lt G4.out)).trans G4.out)
                          have G5' := Lib.hid ((hal.block _ (blk_lt G5.out)).trans G5.out)
                          have G7' := Lib.hid ((hal.block _ (blk_lt G7.out)).trans G7.out)
                          have G9' := Lib.hid ((hal.block _ (blk_lt G9.out)).trans G9.out)
                          have G11' := Lib.hid ((hal.block _ (blk_lt G11.out)).trans G11.out)
                          have BE' := Lib.hid (BE.out.trans (hal.mono BE.out.size))
                          clear hal BE G3 G4 G5 G7 G9 G11
                          have G3 := Lib.hid G3'.out
                          have G4 := Lib.hid G4'.out
                          have G5 := Lib.hid G5'.out
                          have G7 := Lib.hid G7'.out
                          have G9 := Lib.hid G9'.out
                          have G11 := Lib.hid G11'.out
                          have BE := Lib.hid BE'.out
                          clear BE' G3' G4' G5' G7' G9' G11'
                          go_upto_region 15 with (refine wpList_store_row rfl 55 (.tmp 14) (.tmp 149) rfl u12.heap.size (ocells ph ps pz) rfl rfl 55 (ocells false 0 (zs 32)) GN.out IXp.out SXp.out OXp.out ?_)
                          rw [RN.out]
                          try simp only [Act.put]
                          generalize u12.alloc (.cells (ocells ph ps pz) 55) = u13 at *
                          generalize u12.heap.size = q14 at *
                          clear GN RN
                          go_wp2_with (refine wpList_load_row rfl 38 (.tmp 5) rfl (w.heap.size + 1 + 1) rfl 38 (bcells v) (0, 0) _ G5.out Try.underlying38 rfl Iv.out ?_)
                          refine (K29.out _).mono ?_
                          rintro e u14 ⟨rfl, hb⟩
                          have G3' := Lib.hid ((hb.block _ (blk_lt G3.out)).trans G3.out)
                          have G4' := Lib.hid ((hb.block _ (blk_lt G4.out)).trans G4.out)
                          have G5' := Lib.hid ((hb.block _ (blk_lt G5.out)).trans G5.out)
                          have G7' := Lib.hid ((hb.block _ (blk_lt G7.out)).trans G7.out)
                          have G9' := Lib.hid ((hb.block _ (blk_lt G9.out)).trans G9.out)
                          have G11' := Lib.hid ((hb.block _ (blk_lt G11.out)).trans G11.out)
                          have G14' := Lib.hid ((hb.block _ (blk_lt G14.out)).trans G14.out)
                          have BE' := Lib.hid (BE.out.trans (hb.mono BE.out.size))
                          clear hb BE G3 G4 G5 G7 G9 G11 G14
                          have G3 := Lib.hid G3'.out
                          have G4 := Lib.hid G4'.out
                          have G5 := Lib.hid G5'.out
                          have G7 := Lib.hid G7'.out
                          have G9 := Lib.hid G9'.out
                          have G11 := Lib.hid G11'.out
                          have G14 := Lib.hid G14'.out
                          have BE := Lib.hid BE'.out
                          clear BE' G3' G4' G5' G7' G9' G11' G14'
                          have GN := Lib.hid (heap_alloc_new u14 (.cells (ncells (zs 32) 0 0 0) 57))
                          have RN := Lib.hid (alloc_setRowT u14 (ncells (zs 32) 0 0 0) (ncells qz qr qq qc) 57 _ rfl)
                          have hal : Below u14.heap.size u14 (u14.alloc (.cells (ncells qz qr qq qc) 57)) := (Below.refl _ _).alloc (Nat.le_refl _) _
                          have G16 := Lib.hid (heap_alloc_new u14 (.cells (ncells qz qr qq qc) 57))
                          have n16G3 := blk_lt G3.out
                          have n16G4 := blk_lt G4.out
                          have n16G5 := blk_lt G5.out
                          have n16G7 := blk_lt G7.out
                          have n16G9 := blk_lt G9.out
                          have n16G11 := blk_lt G11.out
                          have n16G14 := blk_lt G14.out
                          have G3' := Lib.hid ((hal.block _ (blk_lt G3.out)).trans G3.out)
                          have G4' := Lib.hid ((hal.block _ (blk_lt G4.out)).trans G4.out)
                          have G5' := Lib.hid ((hal.block _ (blk_lt G5.out)).trans G5.out)
                          have G7' := Lib.hid ((hal.block _ (blk_lt G7.out)).trans G7.out)
                          have G9' := Lib.hid ((hal.block _ (blk_lt G9.out)).trans G9.out)
                          have G11' := Lib.hid ((hal.block _ (blk_lt G11.out)).trans G11.out)
                          have G14' := Lib.hid ((hal.block _ (blk_lt G14.out)).trans G14.out)
                          have BE' := Lib.hid (BE.out.trans (hal.mono BE.out.size))
                          clear hal BE G3 G4 G5 G7 G9 G11 G14
                          have G3 := Lib.hid G3'.out
                          have G4 := Lib.hid G4'.out
                          have G5 := Lib.hid G5'.out
                          have G7 := Lib.hid G7'.out
                          have G9 := Lib.hid G9'.out
                          have G11 := Lib.hid G11'.out
                          have G14 := Lib.hid G14'.out
                          have BE := Lib.hid BE'.out
                          clear BE' G3' G4' G5' G7' G9' G11' G14'
                          go_upto_region 16 with (refine wpList_store_row rfl 57 (.tmp 16) (.tmp 154) rfl u14.heap.size (ncells qz qr qq qc) rfl rfl 57 (ncells (zs 32) 0 0 0) GN.out IXq.out SXq.out OXq.out ?_)
                          rw [RN.out]
                          try simp only [Act.put]
                          generalize u14.alloc (.cells (ncells qz qr qq qc) 57) = u15 at *
                          generalize u14.heap.size = q16 at *
                          clear GN RN
                          go_cut [193] (fun s193 wx => s193 = .bool false ∧ Below w.heap.size w wx ∧ Row wx (w.heap.size) 55 (ocells h s z) ∧ Row wx (w.heap.size + 1) 57 (ncells tz r q c) ∧ Row wx (w.heap.size + 1 + 1) 38 (bcells v) ∧ Row wx (q7) 38 (bcells L7) ∧ Row wx (q9) 38 (bcells L9) ∧ Row wx (q11) 5 #[.int .u8 (b2i h)] ∧ Row wx (q14) 55 (ocells ph ps pz) ∧ Row wx (q16) 57 (ncells qz qr qq qc))
                          case first =>
                            as_aux_lemma =>
                              rcases HR.out with ⟨rfl, e1, -⟩ | ⟨rfl, e1, rfl, rfl, rfl⟩
                              · have D1 : Hid (Calls Try.prog 30 #[.slice (some ⟨w.heap.size + 1 + 1, 0, none⟩) 44 44] u15 fun e w' => e = .returned (.bool true) ∧ u15 = w') := by
                                  have := isRootC _ _ v Bv.out Lv.out _ G5.out
                                  rwa [e1] at this
                                clear e1
                                rcases HN.out with ⟨rfl, e2, -⟩ | ⟨rfl, e2, rfl, rfl, rfl, rfl⟩
                                · have D2 : Hid (Calls Try.prog 31 #[.slice (some ⟨w.heap.size + 1 + 1, 0, none⟩) 44 44] u15 fun e w' => e = .returned (.bool true) ∧ u15 = w') := by
                                    have := isTenantC _ _ v Bv.out Lv.out _ G5.out
                                    rwa [e2] at this
                                  clear e2 HR HN
                                  go_wp2_with fail
                                  refine D1.out.mono ?_
                                  rintro e w' ⟨rfl, rfl⟩
                                  go_wp2_with fail
                                  refine D2.out.mono ?_
                                  rintro e w' ⟨rfl, rfl⟩
                                  go_wp2_with (first
                                    | (refine wpList_load_met rfl 55 (.tmp 14) rfl (q14) rfl 55 (ocells ph ps pz) (0, 0) _ G14.out Try.underlying55 ⟨_, rfl⟩ IXp.out ?_)
                                    | (refine wpList_blank_met rfl 55 rfl (b55'.out _) ?_)
                                    | (refine wpList_load_met rfl 57 (.tmp 16) rfl (q16) rfl 57 (ncells qz qr qq qc) (0, 0) _ G16.out Try.underlying57 ⟨_, rfl⟩ IXq.out ?_)
                                    | (refine wpList_blank_met rfl 57 rfl (b57'.out _) ?_))
                                  go_meet
                                  exact ⟨rfl, BE.out, G3.out, G4.out, G5.out, G7.out, G9.out, G11.out, G14.out, G16.out⟩
                                · have D2 : Hid (Calls Try.prog 31 #[.slice (some ⟨w.heap.size + 1 + 1, 0, none⟩) 44 44] u15 fun e w' => e = .returned (.bool false) ∧ u15 = w') := by
                                    have := isTenantC _ _ v Bv.out Lv.out _ G5.out
                                    rwa [e2] at this
                                  clear e2 HR HN
                                  have eqb : ∀ W : World, (Op.equalIn 10000 57 (.agg (ncells (zs 32) 0 0 0)) (.agg (ncells (zs 32) 0 0 0))).run Try.prog W = .ok true W := fun W => entryBack.eq57 (zs_byt _) (zs_len _) W
                                  go_wp2_with fail
                                  refine D1.out.mono ?_
                                  rintro e w' ⟨rfl, rfl⟩
                                  go_wp2_with fail
                                  refine D2.out.mono ?_
                                  rintro e w' ⟨rfl, rfl⟩
                                  go_wp2_with (first
                                    | (refine wpList_load_met rfl 55 (.tmp 14) rfl (q14) rfl 55 (ocells ph ps pz) (0, 0) _ G14.out Try.underlying55 ⟨_, rfl⟩ IXp.out ?_)
                                    | (refine wpList_blank_met rfl 55 rfl (b55'.out _) ?_)
                                    | (refine wpList_load_met rfl 57 (.tmp 16) rfl (q16) rfl 57 (ncells (zs 32) 0 0 0) (0, 0) _ G16.out Try.underlying57 ⟨_, rfl⟩ IXq.out ?_)
                                    | (refine wpList_blank_met rfl 57 rfl (b57'.out _) ?_))
                                  go_meet
                                  exact ⟨rfl, BE.out, G3.out, G4.out, G5.out, G7.out, G9.out, G11.out, G14.out, G16.out⟩
                              · have D1 : Hid (Calls Try.prog 30 #[.slice (some ⟨w.heap.size + 1 + 1, 0, none⟩) 44 44] u15 fun e w' => e = .returned (.bool false) ∧ u15 = w') := by
                                  have := isRootC _ _ v Bv.out Lv.out _ G5.out
                                  rwa [e1] at this
                                clear e1
                                have eqa : ∀ W : World, (Op.equalIn 10000 55 (.agg (ocells false 0 (zs 32))) (.agg (ocells false 0 (zs 32)))).run Try.prog W = .ok true W := fun W => entryBack.eq55 (zs_byt _) (zs_len _) W
                                rcases HN.out with ⟨rfl, e2, -⟩ | ⟨rfl, e2, rfl, rfl, rfl, rfl⟩
                                · have D2 : Hid (Calls Try.prog 31 #[.slice (some ⟨w.heap.size + 1 + 1, 0, none⟩) 44 44] u15 fun e w' => e = .returned (.bool true) ∧ u15 = w') := by
                                    have := isTenantC _ _ v Bv.out Lv.out _ G5.out
                                    rwa [e2] at this
                                  clear e2 HR HN
                                  go_wp2_with fail
                                  refine D1.out.mono ?_
                                  rintro e w' ⟨rfl, rfl⟩
                                  go_wp2_with fail
                                  refine D2.out.mono ?_
                                  rintro e w' ⟨rfl, rfl⟩
                                  go_wp2_with (first
                                    | (refine wpList_load_met rfl 55 (.tmp 14) rfl (q14) rfl 55 (ocells false 0 (zs 32)) (0, 0) _ G14.out Try.underlying55 ⟨_, rfl⟩ IXp.out ?_)
                                    | (refine wpList_blank_met rfl 55 rfl (b55'.out _) ?_)
                                    | (refine wpList_load_met rfl 57 (.tmp 16) rfl (q16) rfl 57 (ncells qz qr qq qc) (0, 0) _ G16.out Try.underlying57 ⟨_, rfl⟩ IXq.out ?_)
                                    | (refine wpList_blank_met rfl 57 rfl (b57'.out _) ?_))
                                  go_meet
                                  exact ⟨rfl, BE.out, G3.out, G4.out, G5.out, G7.out, G9.out, G11.out, G14.out, G16.out⟩
                                · have D2 : Hid (Calls Try.prog 31 #[.slice (some ⟨w.heap.size + 1 + 1, 0, none⟩) 44 44] u15 fun e w' => e = .returned (.bool false) ∧ u15 = w') := by
                                    have := isTenantC _ _ v Bv.out Lv.out _ G5.out
                                    rwa [e2] at this
                                  clear e2 HR HN
                                  have eqb : ∀ W : World, (Op.equalIn 10000 57 (.agg (ncells (zs 32) 0 0 0)) (.agg (ncells (zs 32) 0 0 0))).run Try.prog W = .ok true W := fun W => entryBack.eq57 (zs_byt _) (zs_len _) W
                                  go_wp2_with fail
                                  refine D1.out.mono ?_
                                  rintro e w' ⟨rfl, rfl⟩
                                  go_wp2_with fail
                                  refine D2.out.mono ?_
                                  rintro e w' ⟨rfl, rfl⟩
                                  go_wp2_with (first
                                    | (refine wpList_load_met rfl 55 (.tmp 14) rfl (q14) rfl 55 (ocells false 0 (zs 32)) (0, 0) _ G14.out Try.underlying55 ⟨_, rfl⟩ IXp.out ?_)
                                    | (refine wpList_blank_met rfl 55 rfl (b55'.out _) ?_)
                                    | (refine wpList_load_met rfl 57 (.tmp 16) rfl (q16) rfl 57 (ncells (zs 32) 0 0 0) (0, 0) _ G16.out Try.underlying57 ⟨_, rfl⟩ IXq.out ?_)
                                    | (refine wpList_blank_met rfl 57 rfl (b57'.out _) ?_))
                                  go_meet
                                  exact ⟨rfl, BE.out, G3.out, G4.out, G5.out, G7.out, G9.out, G11.out, G14.out, G16.out⟩
                          case rest =>
                            as_aux_lemma =>
                              clear BE G3 G4 G5 G7 G9 G11 G14 G16
                              obtain ⟨rfl, hbe, rG3, rG4, rG5, rG7, rG9, rG11, rG14, rG16⟩ := hcut
                              have BE := Lib.hid hbe
                              have G3 : Hid (_ = some (Obj.cells (ocells h s z) 55 (0, 0))) := rG3
                              have G4 : Hid (_ = some (Obj.cells (ncells tz r q c) 57 (0, 0))) := rG4
                              have G5 : Hid (_ = some (Obj.cells (bcells v) 38 (0, 0))) := rG5
                              have G7 : Hid (_ = some (Obj.cells (bcells L7) 38 (0, 0))) := rG7
                              have G9 : Hid (_ = some (Obj.cells (bcells L9) 38 (0, 0))) := rG9
                              have G11 : Hid (_ = some (Obj.cells #[.int .u8 (b2i h)] 5 (0, 0))) := rG11
                              have G14 : Hid (_ = some (Obj.cells (ocells ph ps pz) 55 (0, 0))) := rG14
                              have G16 : Hid (_ = some (Obj.cells (ncells qz qr qq qc) 57 (0, 0))) := rG16
                              clear hbe rG3 rG4 rG5 rG7 rG9 rG11 rG14 rG16
                              go_upto_region 18 with (fail)
                              go_cut [221] (fun s221 wx => s221 = .bool false ∧ Below w.heap.size w wx ∧ Row wx (w.heap.size) 55 (ocells h s z) ∧ Row wx (w.heap.size + 1) 57 (ncells tz r q c) ∧ Row wx (w.heap.size + 1 + 1) 38 (bcells v) ∧ Row wx (q7) 38 (bcells L7) ∧ Row wx (q9) 38 (bcells L9) ∧ Row wx (q11) 5 #[.int .u8 (b2i h)] ∧ Row wx (q14) 55 (ocells ph ps pz) ∧ Row wx (q16) 57 (ncells qz qr qq qc))
                              case first =>
                                as_aux_lemma =>
                                  rcases HR.out with ⟨rfl, e1, e2, e3, e4⟩ | ⟨rfl, e1, rfl, rfl, rfl⟩
                                  · have HPH := Lib.hid e2
                                    have CV0 : Hid (∀ W : World, W.heap[w.heap.size + 1 + 1]? = some (.cells (bcells v) 38 (0, 0)) → W.cell? ⟨w.heap.size + 1 + 1, 0, none⟩ = some (.int .u8 (nth v 0))) := fun W hW => by
                                      have := Lv.out
                                      rw [cell_of_row _ _ _ _ _ _ hW]; simp [bcells, nth, List.getD, show 0 < v.length by omega]
                                    have D2 : Hid (∀ W : World, W.heap[w.heap.size + 1 + 1]? = some (.cells (bcells v) 38 (0, 0)) → Calls Try.prog 24 #[.slice (some ⟨w.heap.size + 1 + 1, 1, none⟩) 4 43] W fun e w' => e = .returned (.int .u64 ps) ∧ W = w') := fun W hW => by
                                      rw [← e3]
                                      exact numC (w.heap.size + 1 + 1) 38 1 4 v Bv.out (by rw [Lv.out]; decide) (by decide) (by decide) 43 (by decide) (by decide) W hW
                                    have SV5 : Hid (∀ W : World, W.heap[w.heap.size + 1 + 1]? = some (.cells (bcells v) 38 (0, 0)) → Sees W (.slice (some ⟨w.heap.size + 1 + 1, 5, none⟩) 32 39) pz) := fun W hW => by
                                      rw [← e4]
                                      exact sees_part W _ _ v Bv.out hW 5 32 39 (by rw [Lv.out]; decide) (by decide) (by decide) (by decide)
                                    have WPS := Lib.hid (wrap_of Rps.out.1 Rps.out.2)
                                    have ps1 : 0 ≤ ps := Rps.out.1
                                    have ps2 : ps ≤ 4294967295 := Rps.out.2
                                    clear e1 e2 e3 e4 HR HN
                                    refine wp_region_held_drew (S := fun W => Below w.heap.size w W ∧ W.heap[(q14)]? = some (.cells (ocells ph ps pz) 55 (0, 0)) ∧ W.heap[(w.heap.size + 1 + 1)]? = some (.cells (bcells v) 38 (0, 0))) (by kernel_rfl) (⟨BE.out.drew, G14.out, G5.out⟩) (fun hS => ?_)
                                    have hb0 : Below wc.heap.size wc wc.drew := (Below.refl _ _).drew
                                    have qG3 := (hb0.block _ (blk_lt G3.out)).trans G3.out
                                    have qG4 := (hb0.block _ (blk_lt G4.out)).trans G4.out
                                    have qG5 := (hb0.block _ (blk_lt G5.out)).trans G5.out
                                    have qG7 := (hb0.block _ (blk_lt G7.out)).trans G7.out
                                    have qG9 := (hb0.block _ (blk_lt G9.out)).trans G9.out
                                    have qG11 := (hb0.block _ (blk_lt G11.out)).trans G11.out
                                    have qG14 := (hb0.block _ (blk_lt G14.out)).trans G14.out
                                    have qG16 := (hb0.block _ (blk_lt G16.out)).trans G16.out
                                    clear hb0 G3 G4 G5 G7 G9 G11 G14 G16
                                    generalize wc.drew = Wes at hS qG3 qG4 qG5 qG7 qG9 qG11 qG14 qG16 ⊢
                                    have G3 := Lib.hid qG3
                                    have G4 := Lib.hid qG4
                                    have G5 := Lib.hid qG5
                                    have G7 := Lib.hid qG7
                                    have G9 := Lib.hid qG9
                                    have G11 := Lib.hid qG11
                                    have G14 := Lib.hid qG14
                                    have G16 := Lib.hid qG16
                                    clear qG3 qG4 qG5 qG7 qG9 qG11 qG14 qG16
                                    refine' wpAnyH_take (i := 0) ?h1x0e ?hsx0e ?hfx0e ?hrx0e ?hQx0e (Or.inl ⟨?hwx0e, ?hyx0e⟩) hS ?restx0e
                                    case h1x0e => (simp only [List.getElem?_toArray, List.getElem?_cons_zero]; rfl)
                                    case hsx0e => kernel_rfl
                                    case hfx0e => kernel_rfl
                                    case hrx0e => kernel_rfl
                                    case hQx0e => exact fun _ _ _ h => h
                                    case hwx0e => rfl
                                    case hyx0e =>
                                      intro W hW
                                      go_simp
                                      try with_reducible rfl
                                    simp only [Act.put, List.setIfInBounds_toArray, List.set_cons_succ, List.set_cons_zero]
                                    refine' wpAnyH_take (i := 1) ?h1x1e ?hsx1e ?hfx1e ?hrx1e ?hQx1e (Or.inl ⟨?hwx1e, ?hyx1e⟩) hS ?restx1e
                                    case h1x1e => (simp only [List.getElem?_toArray, List.getElem?_cons_succ, List.getElem?_cons_zero]; rfl)
                                    case hsx1e => kernel_rfl
                                    case hfx1e => kernel_rfl
                                    case hrx1e => kernel_rfl
                                    case hQx1e => exact fun _ _ _ h => h
                                    case hwx1e => rfl
                                    case hyx1e =>
                                      intro W hW
                                      go_simp
                                      try with_reducible rfl
                                    simp only [Act.put, List.setIfInBounds_toArray, List.set_cons_succ, List.set_cons_zero]
                                    refine' wpAnyH_take (i := 2) ?h1x2e ?hsx2e ?hfx2e ?hrx2e ?hQx2e (Or.inl ⟨?hwx2e, ?hyx2e⟩) hS ?restx2e
                                    case h1x2e => (simp only [List.getElem?_toArray, List.getElem?_cons_succ, List.getElem?_cons_zero]; rfl)
                                    case hsx2e => kernel_rfl
                                    case hfx2e => kernel_rfl
                                    case hrx2e => kernel_rfl
                                    case hQx2e => exact fun _ _ _ h => h
                                    case hwx2e => rfl
                                    case hyx2e =>
                                      intro W hW
                                      go_simp
                                      try with_reducible rfl
                                    simp only [Act.put, List.setIfInBounds_toArray, List.set_cons_succ, List.set_cons_zero]
                                    refine' wpAnyH_take (i := 3) ?h1x3e ?hsx3e ?hfx3e ?hrx3e ?hQx3e (Or.inl ⟨?hwx3e, ?hyx3e⟩) hS ?restx3e
                                    case h1x3e => (simp only [List.getElem?_toArray, List.getElem?_cons_succ, List.getElem?_cons_zero]; rfl)
                                    case hsx3e => kernel_rfl
                                    case hfx3e => kernel_rfl
                                    case hrx3e => kernel_rfl
                                    case hQx3e => exact fun _ _ _ h => h
                                    case hwx3e => rfl
                                    case hyx3e =>
                                      intro W hW
                                      go_simp
                                      try with_reducible rfl
                                    simp only [Act.put, List.setIfInBounds_toArray, List.set_cons_succ, List.set_cons_zero]
                                    refine' wpAnyH_take (i := 5) ?h1x5e ?hsx5e ?hfx5e ?hrx5e ?hQx5e (Or.inl ⟨?hwx5e, ?hyx5e⟩) hS ?restx5e
                                    case h1x5e => (simp only [List.getElem?_toArray, List.getElem?_cons_succ, List.getElem?_cons_zero]; rfl)
                                    case hsx5e => kernel_rfl
                                    case hfx5e => kernel_rfl
                                    case hrx5e => kernel_rfl
                                    case hQx5e => exact fun _ _ _ h => h
                                    case hwx5e => rfl
                                    case hyx5e =>
                                      intro W hW
                                      go_simp
                                      try with_reducible rfl
                                    simp only [Act.put, List.setIfInBounds_toArray, List.set_cons_succ, List.set_cons_zero]
                                    refine' wpAnyH_take (i := 4) ?h1x4e ?hsx4e ?hfx4e ?hrx4e ?hQx4e (Or.inl ⟨?hwx4e, ?hyx4e⟩) hS ?restx4e
                                    case h1x4e => (simp only [List.getElem?_toArray, List.getElem?_cons_succ, List.getElem?_cons_zero]; rfl)
                                    case hsx4e => kernel_rfl
                                    case hfx4e => kernel_rfl
                                    case hrx4e => kernel_rfl
                                    case hQx4e => exact fun _ _ _ h => h
                                    case hwx4e => rfl
                                    case hyx4e =>
                                      intro W hW
                                      have dd := oc0 hW.2.1
                                      go_simp
                                      try with_reducible rfl
                                    simp only [Act.put, List.setIfInBounds_toArray, List.set_cons_succ, List.set_cons_zero]
                                    refine' wpAnyH_take (i := 6) ?h1x6e ?hsx6e ?hfx6e ?hrx6e ?hQx6e (Or.inl ⟨?hwx6e, ?hyx6e⟩) hS ?restx6e
                                    case h1x6e => (simp only [List.getElem?_toArray, List.getElem?_cons_succ, List.getElem?_cons_zero]; rfl)
                                    case hsx6e => kernel_rfl
                                    case hfx6e => kernel_rfl
                                    case hrx6e => kernel_rfl
                                    case hQx6e => exact fun _ _ _ h => h
                                    case hwx6e => rfl
                                    case hyx6e =>
                                      intro W hW
                                      have dd := CV0.out _ hW.2.2
                                      go_simp
                                      try with_reducible rfl
                                    simp only [Act.put, List.setIfInBounds_toArray, List.set_cons_succ, List.set_cons_zero]
                                    refine' wpAnyH_take (i := 7) ?h1x7e ?hsx7e ?hfx7e ?hrx7e ?hQx7e (Or.inl ⟨?hwx7e, ?hyx7e⟩) hS ?restx7e
                                    case h1x7e => (simp only [List.getElem?_toArray, List.getElem?_cons_succ, List.getElem?_cons_zero]; rfl)
                                    case hsx7e => kernel_rfl
                                    case hfx7e => kernel_rfl
                                    case hrx7e => kernel_rfl
                                    case hQx7e => exact fun _ _ _ h => h
                                    case hwx7e => rfl
                                    case hyx7e =>
                                      intro W hW
                                      have dd := HPH.out
                                      go_simp
                                      try with_reducible rfl
                                    simp only [Act.put, List.setIfInBounds_toArray, List.set_cons_succ, List.set_cons_zero]
                                    refine' wpAnyH_take (i := 8) ?h1x8e ?hsx8e ?hfx8e ?hrx8e ?hQx8e (Or.inl ⟨?hwx8e, ?hyx8e⟩) hS ?restx8e
                                    case h1x8e => (simp only [List.getElem?_toArray, List.getElem?_cons_succ, List.getElem?_cons_zero]; rfl)
                                    case hsx8e => kernel_rfl
                                    case hfx8e => kernel_rfl
                                    case hrx8e => kernel_rfl
                                    case hQx8e => exact fun _ _ _ h => h
                                    case hwx8e => rfl
                                    case hyx8e =>
                                      intro W hW
                                      go_simp
                                      try with_reducible rfl
                                    simp only [Act.put, List.setIfInBounds_toArray, List.set_cons_succ, List.set_cons_zero]
                                    refine' wpAnyH_take (i := 9) ?h1x9e ?hsx9e ?hfx9e ?hrx9e ?hQx9e (Or.inl ⟨?hwx9e, ?hyx9e⟩) hS ?restx9e
                                    case h1x9e => (simp only [List.getElem?_toArray, List.getElem?_cons_succ, List.getElem?_cons_zero]; rfl)
                                    case hsx9e => kernel_rfl
                                    case hfx9e => kernel_rfl
                                    case hrx9e => kernel_rfl
                                    case hQx9e => exact fun _ _ _ h => h
                                    case hwx9e => rfl
                                    case hyx9e =>
                                      intro W hW
                                      go_simp
                                      try with_reducible rfl
                                    simp only [Act.put, List.setIfInBounds_toArray, List.set_cons_succ, List.set_cons_zero]
                                    refine' wpAnyH_take (i := 10) ?h1x10e ?hsx10e ?hfx10e ?hrx10e ?hQx10e (Or.inl ⟨?hwx10e, ?hyx10e⟩) hS ?restx10e
                                    case h1x10e => (simp only [List.getElem?_toArray, List.getElem?_cons_succ, List.getElem?_cons_zero]; rfl)
                                    case hsx10e => kernel_rfl
                                    case hfx10e => kernel_rfl
                                    case hrx10e => kernel_rfl
                                    case hQx10e => exact fun _ _ _ h => h
                                    case hwx10e => rfl
                                    case hyx10e =>
                                      intro W hW
                                      go_simp
                                      try with_reducible rfl
                                    simp only [Act.put, List.setIfInBounds_toArray, List.set_cons_succ, List.set_cons_zero]
                                    refine' wpAnyH_take (i := 14) ?h1x14e ?hsx14e ?hfx14e ?hrx14e ?hQx14e (Or.inl ⟨?hwx14e, ?hyx14e⟩) hS ?restx14e
                                    case h1x14e => (simp only [List.getElem?_toArray, List.getElem?_cons_succ, List.getElem?_cons_zero]; rfl)
                                    case hsx14e => kernel_rfl
                                    case hfx14e => kernel_rfl
                                    case hrx14e => kernel_rfl
                                    case hQx14e => exact fun _ _ _ h => h
                                    case hwx14e => rfl
                                    case hyx14e =>
                                      intro W hW
                                      go_simp
                                      try with_reducible rfl
                                    simp only [Act.put, List.setIfInBounds_toArray, List.set_cons_succ, List.set_cons_zero]
                                    refine' wpAnyH_take (i := 11) ?h1x11e ?hsx11e ?hfx11e ?hrx11e ?hQx11e (Or.inl ⟨?hwx11e, ?hyx11e⟩) hS ?restx11e
                                    case h1x11e => (simp only [List.getElem?_toArray, List.getElem?_cons_succ, List.getElem?_cons_zero]; rfl)
                                    case hsx11e => kernel_rfl
                                    case hfx11e => kernel_rfl
                                    case hrx11e => kernel_rfl
                                    case hQx11e => exact fun _ _ _ h => h
                                    case hwx11e => rfl
                                    case hyx11e =>
                                      intro W hW
                                      go_simp
                                      try with_reducible rfl
                                    simp only [Act.put, List.setIfInBounds_toArray, List.set_cons_succ, List.set_cons_zero]
                                    refine' wpAnyH_take (i := 12) ?h1x12e ?hsx12e ?hfx12e ?hrx12e ?hQx12e (Or.inl ⟨?hwx12e, ?hyx12e⟩) hS ?restx12e
                                    case h1x12e => (simp only [List.getElem?_toArray, List.getElem?_cons_succ, List.getElem?_cons_zero]; rfl)
                                    case hsx12e => kernel_rfl
                                    case hfx12e => kernel_rfl
                                    case hrx12e => kernel_rfl
                                    case hQx12e => exact fun _ _ _ h => h
                                    case hwx12e => rfl
                                    case hyx12e =>
                                      intro W hW
                                      have dd := oc1 hW.2.1
                                      go_simp
                                      try with_reducible rfl
                                    simp only [Act.put, List.setIfInBounds_toArray, List.set_cons_succ, List.set_cons_zero]
                                    refine' wpAnyH_take (i := 13) ?h1x13e ?hsx13e ?hfx13e ?hrx13e ?hQx13e (Or.inl ⟨?hwx13e, ?hyx13e⟩) hS ?restx13e
                                    case h1x13e => (simp only [List.getElem?_toArray, List.getElem?_cons_succ, List.getElem?_cons_zero]; rfl)
                                    case hsx13e => kernel_rfl
                                    case hfx13e => kernel_rfl
                                    case hrx13e => kernel_rfl
                                    case hQx13e => exact fun _ _ _ h => h
                                    case hwx13e => rfl
                                    case hyx13e =>
                                      intro W hW
                                      have dd := WPS.out
                                      go_simp
                                      try with_reducible rfl
                                    simp only [Act.put, List.setIfInBounds_toArray, List.set_cons_succ, List.set_cons_zero]
                                    refine wpAnyH_ready (rs := [15]) (by kernel_rfl) (by simp) ?_
                                    refine' (AllReadyH.cons ?hoc15e (fun K hK => ?stc15e) AllReadyH.nil)
                                    case hoc15e => (simp only [List.getElem?_toArray, List.getElem?_cons_succ, List.getElem?_cons_zero]; rfl)
                                    go_simp
                                    refine (D2.out Wes G5.out).mono ?_
                                    rintro e w' ⟨rfl, rfl⟩
                                    go_wp2_with fail
                                    refine hK.out _ _ hS (fun hHeld => ?_)
                                    clear hK K
                                    try simp only [Act.put, List.setIfInBounds_toArray, List.set_cons_succ, List.set_cons_zero]
                                    clear hS
                                    have hS := hHeld
                                    clear hHeld
                                    refine' wpAnyH_take (i := 16) ?h1x16ex15 ?hsx16ex15 ?hfx16ex15 ?hrx16ex15 ?hQx16ex15 (Or.inl ⟨?hwx16ex15, ?hyx16ex15⟩) hS ?restx16ex15
                                    case h1x16ex15 => (simp only [List.getElem?_toArray, List.getElem?_cons_succ, List.getElem?_cons_zero]; rfl)
                                    case hsx16ex15 => kernel_rfl
                                    case hfx16ex15 => kernel_rfl
                                    case hrx16ex15 => kernel_rfl
                                    case hQx16ex15 => exact fun _ _ _ h => h
                                    case hwx16ex15 => rfl
                                    case hyx16ex15 =>
                                      intro W hW
                                      go_simp
                                      try with_reducible rfl
                                    simp only [Act.put, List.setIfInBounds_toArray, List.set_cons_succ, List.set_cons_zero]
                                    refine' wpAnyH_take (i := 17) ?h1x17ex15 ?hsx17ex15 ?hfx17ex15 ?hrx17ex15 ?hQx17ex15 (Or.inl ⟨?hwx17ex15, ?hyx17ex15⟩) hS ?restx17ex15
                                    case h1x17ex15 => (simp only [List.getElem?_toArray, List.getElem?_cons_succ, List.getElem?_cons_zero]; rfl)
                                    case hsx17ex15 => kernel_rfl
                                    case hfx17ex15 => kernel_rfl
                                    case hrx17ex15 => kernel_rfl
                                    case hQx17ex15 => exact fun _ _ _ h => h
                                    case hwx17ex15 => rfl
                                    case hyx17ex15 =>
                                      intro W hW
                                      go_simp
                                      try with_reducible rfl
                                    simp only [Act.put, List.setIfInBounds_toArray, List.set_cons_succ, List.set_cons_zero]
                                    refine' wpAnyH_take (i := 18) ?h1x18ex15 ?hsx18ex15 ?hfx18ex15 ?hrx18ex15 ?hQx18ex15 (Or.inl ⟨?hwx18ex15, ?hyx18ex15⟩) hS ?restx18ex15
                                    case h1x18ex15 => (simp only [List.getElem?_toArray, List.getElem?_cons_succ, List.getElem?_cons_zero]; rfl)
                                    case hsx18ex15 => kernel_rfl
                                    case hfx18ex15 => kernel_rfl
                                    case hrx18ex15 => kernel_rfl
                                    case hQx18ex15 => exact fun _ _ _ h => h
                                    case hwx18ex15 => rfl
                                    case hyx18ex15 =>
                                      intro W hW
                                      go_simp
                                      try with_reducible rfl
                                    simp only [Act.put, List.setIfInBounds_toArray, List.set_cons_succ, List.set_cons_zero]
                                    refine' wpAnyH_take (i := 19) ?h1x19ex15 ?hsx19ex15 ?hfx19ex15 ?hrx19ex15 ?hQx19ex15 (Or.inl ⟨?hwx19ex15, ?hyx19ex15⟩) hS ?restx19ex15
                                    case h1x19ex15 => (simp only [List.getElem?_toArray, List.getElem?_cons_succ, List.getElem?_cons_zero]; rfl)
                                    case hsx19ex15 => kernel_rfl
                                    case hfx19ex15 => kernel_rfl
                                    case hrx19ex15 => kernel_rfl
                                    case hQx19ex15 => exact fun _ _ _ h => h
                                    case hwx19ex15 => rfl
                                    case hyx19ex15 =>
                                      intro W hW
                                      go_simp
                                      try with_reducible rfl
                                    simp only [Act.put, List.setIfInBounds_toArray, List.set_cons_succ, List.set_cons_zero]
                                    refine' wpAnyH_take (i := 23) ?h1x23ex15 ?hsx23ex15 ?hfx23ex15 ?hrx23ex15 ?hQx23ex15 (Or.inl ⟨?hwx23ex15, ?hyx23ex15⟩) hS ?restx23ex15
                                    case h1x23ex15 => (simp only [List.getElem?_toArray, List.getElem?_cons_succ, List.getElem?_cons_zero]; rfl)
                                    case hsx23ex15 => kernel_rfl
                                    case hfx23ex15 => kernel_rfl
                                    case hrx23ex15 => kernel_rfl
                                    case hQx23ex15 => exact fun _ _ _ h => h
                                    case hwx23ex15 => rfl
                                    case hyx23ex15 =>
                                      intro W hW
                                      go_simp
                                      try with_reducible rfl
                                    simp only [Act.put, List.setIfInBounds_toArray, List.set_cons_succ, List.set_cons_zero]
                                    refine' wpAnyH_take (i := 20) ?h1x20ex15 ?hsx20ex15 ?hfx20ex15 ?hrx20ex15 ?hQx20ex15 (Or.inl ⟨?hwx20ex15, ?hyx20ex15⟩) hS ?restx20ex15
                                    case h1x20ex15 => (simp only [List.getElem?_toArray, List.getElem?_cons_succ, List.getElem?_cons_zero]; rfl)
                                    case hsx20ex15 => kernel_rfl
                                    case hfx20ex15 => kernel_rfl
                                    case hrx20ex15 => kernel_rfl
                                    case hQx20ex15 => exact fun _ _ _ h => h
                                    case hwx20ex15 => rfl
                                    case hyx20ex15 =>
                                      intro W hW
                                      go_simp
                                      try with_reducible rfl
                                    simp only [Act.put, List.setIfInBounds_toArray, List.set_cons_succ, List.set_cons_zero]
                                    refine' wpAnyH_take (i := 24) ?h1x24ex15 ?hsx24ex15 ?hfx24ex15 ?hrx24ex15 ?hQx24ex15 (Or.inl ⟨?hwx24ex15, ?hyx24ex15⟩) hS ?restx24ex15
                                    case h1x24ex15 => (simp only [List.getElem?_toArray, List.getElem?_cons_succ, List.getElem?_cons_zero]; rfl)
                                    case hsx24ex15 => kernel_rfl
                                    case hfx24ex15 => kernel_rfl
                                    case hrx24ex15 => kernel_rfl
                                    case hQx24ex15 => exact fun _ _ _ h => h
                                    case hwx24ex15 => rfl
                                    case hyx24ex15 =>
                                      intro W hW
                                      have cv := (SV5.out _ hW.2.2).str
                                      go_simp
                                      try with_reducible rfl
                                    simp only [Act.put, List.setIfInBounds_toArray, List.set_cons_succ, List.set_cons_zero]
                                    refine' wpAnyH_take (i := 21) ?h1x21ex15 ?hsx21ex15 ?hfx21ex15 ?hrx21ex15 ?hQx21ex15 (Or.inl ⟨?hwx21ex15, ?hyx21ex15⟩) hS ?restx21ex15
                                    case h1x21ex15 => (simp only [List.getElem?_toArray, List.getElem?_cons_succ, List.getElem?_cons_zero]; rfl)
                                    case hsx21ex15 => kernel_rfl
                                    case hfx21ex15 => kernel_rfl
                                    case hrx21ex15 => kernel_rfl
                                    case hQx21ex15 => exact fun _ _ _ h => h
                                    case hwx21ex15 => rfl
                                    case hyx21ex15 =>
                                      intro W hW
                                      go_simp
                                      try with_reducible rfl
                                    simp only [Act.put, List.setIfInBounds_toArray, List.set_cons_succ, List.set_cons_zero]
                                    refine' wpAnyH_take (i := 22) ?h1x22ex15 ?hsx22ex15 ?hfx22ex15 ?hrx22ex15 ?hQx22ex15 (Or.inl ⟨?hwx22ex15, ?hyx22ex15⟩) hS ?restx22ex15
                                    case h1x22ex15 => (simp only [List.getElem?_toArray, List.getElem?_cons_succ, List.getElem?_cons_zero]; rfl)
                                    case hsx22ex15 => kernel_rfl
                                    case hfx22ex15 => kernel_rfl
                                    case hrx22ex15 => kernel_rfl
                                    case hQx22ex15 => exact fun _ _ _ h => h
                                    case hwx22ex15 => rfl
                                    case hyx22ex15 =>
                                      intro W hW
                                      have cv := (osum Bpz.out Lpz.out hW.2.1).str
                                      go_simp
                                      try with_reducible rfl
                                    simp only [Act.put, List.setIfInBounds_toArray, List.set_cons_succ, List.set_cons_zero]
                                    refine' wpAnyH_take (i := 25) ?h1x25ex15 ?hsx25ex15 ?hfx25ex15 ?hrx25ex15 ?hQx25ex15 (Or.inl ⟨?hwx25ex15, ?hyx25ex15⟩) hS ?restx25ex15
                                    case h1x25ex15 => (simp only [List.getElem?_toArray, List.getElem?_cons_succ, List.getElem?_cons_zero]; rfl)
                                    case hsx25ex15 => kernel_rfl
                                    case hfx25ex15 => kernel_rfl
                                    case hrx25ex15 => kernel_rfl
                                    case hQx25ex15 => exact fun _ _ _ h => h
                                    case hwx25ex15 => rfl
                                    case hyx25ex15 =>
                                      intro W hW
                                      go_simp
                                      try with_reducible rfl
                                    simp only [Act.put, List.setIfInBounds_toArray, List.set_cons_succ, List.set_cons_zero]
                                    refine' wpAnyH_take (i := 26) ?h1x26ex15 ?hsx26ex15 ?hfx26ex15 ?hrx26ex15 ?hQx26ex15 (Or.inl ⟨?hwx26ex15, ?hyx26ex15⟩) hS ?restx26ex15
                                    case h1x26ex15 => (simp only [List.getElem?_toArray, List.getElem?_cons_succ, List.getElem?_cons_zero]; rfl)
                                    case hsx26ex15 => kernel_rfl
                                    case hfx26ex15 => kernel_rfl
                                    case hrx26ex15 => kernel_rfl
                                    case hQx26ex15 => exact fun _ _ _ h => h
                                    case hwx26ex15 => rfl
                                    case hyx26ex15 =>
                                      intro W hW
                                      go_simp
                                      try with_reducible rfl
                                    simp only [Act.put, List.setIfInBounds_toArray, List.set_cons_succ, List.set_cons_zero]
                                    refine' wpAnyH_take (i := 27) ?h1x27ex15 ?hsx27ex15 ?hfx27ex15 ?hrx27ex15 ?hQx27ex15 (Or.inl ⟨?hwx27ex15, ?hyx27ex15⟩) hS ?restx27ex15
                                    case h1x27ex15 => (simp only [List.getElem?_toArray, List.getElem?_cons_succ, List.getElem?_cons_zero]; rfl)
                                    case hsx27ex15 => kernel_rfl
                                    case hfx27ex15 => kernel_rfl
                                    case hrx27ex15 => kernel_rfl
                                    case hQx27ex15 => exact fun _ _ _ h => h
                                    case hwx27ex15 => rfl
                                    case hyx27ex15 =>
                                      intro W hW
                                      go_simp
                                      try with_reducible rfl
                                    simp only [Act.put, List.setIfInBounds_toArray, List.set_cons_succ, List.set_cons_zero]
                                    refine wpAnyH_done (by kernel_rfl) ?_ _
                                    go_wp2_with fail
                                    go_meet
                                    exact ⟨rfl, hS.1, G3.out, G4.out, G5.out, G7.out, G9.out, G11.out, G14.out, G16.out⟩
                                  · clear e1 HN HR
                                    refine wp_region_held_drew (S := fun W => Below w.heap.size w W ∧ W.heap[(q14)]? = some (.cells (ocells false 0 (zs 32)) 55 (0, 0)) ∧ W.heap[(w.heap.size + 1 + 1)]? = some (.cells (bcells v) 38 (0, 0))) (by kernel_rfl) (⟨BE.out.drew, G14.out, G5.out⟩) (fun hS => ?_)
                                    have hb0 : Below wc.heap.size wc wc.drew := (Below.refl _ _).drew
                                    have qG3 := (hb0.block _ (blk_lt G3.out)).trans G3.out
                                    have qG4 := (hb0.block _ (blk_lt G4.out)).trans G4.out
                                    have qG5 := (hb0.block _ (blk_lt G5.out)).trans G5.out
                                    have qG7 := (hb0.block _ (blk_lt G7.out)).trans G7.out
                                    have qG9 := (hb0.block _ (blk_lt G9.out)).trans G9.out
                                    have qG11 := (hb0.block _ (blk_lt G11.out)).trans G11.out
                                    have qG14 := (hb0.block _ (blk_lt G14.out)).trans G14.out
                                    have qG16 := (hb0.block _ (blk_lt G16.out)).trans G16.out
                                    clear hb0 G3 G4 G5 G7 G9 G11 G14 G16
                                    generalize wc.drew = Wfs at hS qG3 qG4 qG5 qG7 qG9 qG11 qG14 qG16 ⊢
                                    have G3 := Lib.hid qG3
                                    have G4 := Lib.hid qG4
                                    have G5 := Lib.hid qG5
                                    have G7 := Lib.hid qG7
                                    have G9 := Lib.hid qG9
                                    have G11 := Lib.hid qG11
                                    have G14 := Lib.hid qG14
                                    have G16 := Lib.hid qG16
                                    clear qG3 qG4 qG5 qG7 qG9 qG11 qG14 qG16
                                    refine' wpAnyH_take (i := 0) ?h1x0f ?hsx0f ?hfx0f ?hrx0f ?hQx0f (Or.inl ⟨?hwx0f, ?hyx0f⟩) hS ?restx0f
                                    case h1x0f => (simp only [List.getElem?_toArray, List.getElem?_cons_zero]; rfl)
                                    case hsx0f => kernel_rfl
                                    case hfx0f => kernel_rfl
                                    case hrx0f => kernel_rfl
                                    case hQx0f => exact fun _ _ _ h => h
                                    case hwx0f => rfl
                                    case hyx0f =>
                                      intro W hW
                                      go_simp
                                      try with_reducible rfl
                                    simp only [Act.put, List.setIfInBounds_toArray, List.set_cons_succ, List.set_cons_zero]
                                    refine' wpAnyH_take (i := 1) ?h1x1f ?hsx1f ?hfx1f ?hrx1f ?hQx1f (Or.inl ⟨?hwx1f, ?hyx1f⟩) hS ?restx1f
                                    case h1x1f => (simp only [List.getElem?_toArray, List.getElem?_cons_succ, List.getElem?_cons_zero]; rfl)
                                    case hsx1f => kernel_rfl
                                    case hfx1f => kernel_rfl
                                    case hrx1f => kernel_rfl
                                    case hQx1f => exact fun _ _ _ h => h
                                    case hwx1f => rfl
                                    case hyx1f =>
                                      intro W hW
                                      go_simp
                                      try with_reducible rfl
                                    simp only [Act.put, List.setIfInBounds_toArray, List.set_cons_succ, List.set_cons_zero]
                                    refine' wpAnyH_take (i := 2) ?h1x2f ?hsx2f ?hfx2f ?hrx2f ?hQx2f (Or.inl ⟨?hwx2f, ?hyx2f⟩) hS ?restx2f
                                    case h1x2f => (simp only [List.getElem?_toArray, List.getElem?_cons_succ, List.getElem?_cons_zero]; rfl)
                                    case hsx2f => kernel_rfl
                                    case hfx2f => kernel_rfl
                                    case hrx2f => kernel_rfl
                                    case hQx2f => exact fun _ _ _ h => h
                                    case hwx2f => rfl
                                    case hyx2f =>
                                      intro W hW
                                      go_simp
                                      try with_reducible rfl
                                    simp only [Act.put, List.setIfInBounds_toArray, List.set_cons_succ, List.set_cons_zero]
                                    refine' wpAnyH_take (i := 3) ?h1x3f ?hsx3f ?hfx3f ?hrx3f ?hQx3f (Or.inr ⟨?hwx3f, rfl⟩) hS ?restx3f
                                    case h1x3f => (simp only [List.getElem?_toArray, List.getElem?_cons_succ, List.getElem?_cons_zero]; rfl)
                                    case hsx3f => kernel_rfl
                                    case hfx3f => kernel_rfl
                                    case hrx3f => kernel_rfl
                                    case hQx3f => exact fun _ _ _ h => h
                                    case hwx3f => rfl
                                    simp only [Act.put, List.setIfInBounds_toArray, List.set_cons_succ, List.set_cons_zero]
                                    refine' wpAnyH_take (i := 5) ?h1x5f ?hsx5f ?hfx5f ?hrx5f ?hQx5f (Or.inr ⟨?hwx5f, rfl⟩) hS ?restx5f
                                    case h1x5f => (simp only [List.getElem?_toArray, List.getElem?_cons_succ, List.getElem?_cons_zero]; rfl)
                                    case hsx5f => kernel_rfl
                                    case hfx5f => kernel_rfl
                                    case hrx5f => kernel_rfl
                                    case hQx5f => exact fun _ _ _ h => h
                                    case hwx5f => rfl
                                    simp only [Act.put, List.setIfInBounds_toArray, List.set_cons_succ, List.set_cons_zero]
                                    refine' wpAnyH_take (i := 4) ?h1x4f ?hsx4f ?hfx4f ?hrx4f ?hQx4f (Or.inr ⟨?hwx4f, rfl⟩) hS ?restx4f
                                    case h1x4f => (simp only [List.getElem?_toArray, List.getElem?_cons_succ, List.getElem?_cons_zero]; rfl)
                                    case hsx4f => kernel_rfl
                                    case hfx4f => kernel_rfl
                                    case hrx4f => kernel_rfl
                                    case hQx4f => exact fun _ _ _ h => h
                                    case hwx4f => rfl
                                    simp only [Act.put, List.setIfInBounds_toArray, List.set_cons_succ, List.set_cons_zero]
                                    refine' wpAnyH_take (i := 6) ?h1x6f ?hsx6f ?hfx6f ?hrx6f ?hQx6f (Or.inr ⟨?hwx6f, rfl⟩) hS ?restx6f
                                    case h1x6f => (simp only [List.getElem?_toArray, List.getElem?_cons_succ, List.getElem?_cons_zero]; rfl)
                                    case hsx6f => kernel_rfl
                                    case hfx6f => kernel_rfl
                                    case hrx6f => kernel_rfl
                                    case hQx6f => exact fun _ _ _ h => h
                                    case hwx6f => rfl
                                    simp only [Act.put, List.setIfInBounds_toArray, List.set_cons_succ, List.set_cons_zero]
                                    refine' wpAnyH_take (i := 7) ?h1x7f ?hsx7f ?hfx7f ?hrx7f ?hQx7f (Or.inr ⟨?hwx7f, rfl⟩) hS ?restx7f
                                    case h1x7f => (simp only [List.getElem?_toArray, List.getElem?_cons_succ, List.getElem?_cons_zero]; rfl)
                                    case hsx7f => kernel_rfl
                                    case hfx7f => kernel_rfl
                                    case hrx7f => kernel_rfl
                                    case hQx7f => exact fun _ _ _ h => h
                                    case hwx7f => rfl
                                    simp only [Act.put, List.setIfInBounds_toArray, List.set_cons_succ, List.set_cons_zero]
                                    refine' wpAnyH_take (i := 8) ?h1x8f ?hsx8f ?hfx8f ?hrx8f ?hQx8f (Or.inr ⟨?hwx8f, rfl⟩) hS ?restx8f
                                    case h1x8f => (simp only [List.getElem?_toArray, List.getElem?_cons_succ, List.getElem?_cons_zero]; rfl)
                                    case hsx8f => kernel_rfl
                                    case hfx8f => kernel_rfl
                                    case hrx8f => kernel_rfl
                                    case hQx8f => exact fun _ _ _ h => h
                                    case hwx8f => rfl
                                    simp only [Act.put, List.setIfInBounds_toArray, List.set_cons_succ, List.set_cons_zero]
                                    refine' wpAnyH_take (i := 9) ?h1x9f ?hsx9f ?hfx9f ?hrx9f ?hQx9f (Or.inr ⟨?hwx9f, rfl⟩) hS ?restx9f
                                    case h1x9f => (simp only [List.getElem?_toArray, List.getElem?_cons_succ, List.getElem?_cons_zero]; rfl)
                                    case hsx9f => kernel_rfl
                                    case hfx9f => kernel_rfl
                                    case hrx9f => kernel_rfl
                                    case hQx9f => exact fun _ _ _ h => h
                                    case hwx9f => rfl
                                    simp only [Act.put, List.setIfInBounds_toArray, List.set_cons_succ, List.set_cons_zero]
                                    refine' wpAnyH_take (i := 10) ?h1x10f ?hsx10f ?hfx10f ?hrx10f ?hQx10f (Or.inr ⟨?hwx10f, rfl⟩) hS ?restx10f
                                    case h1x10f => (simp only [List.getElem?_toArray, List.getElem?_cons_succ, List.getElem?_cons_zero]; rfl)
                                    case hsx10f => kernel_rfl
                                    case hfx10f => kernel_rfl
                                    case hrx10f => kernel_rfl
                                    case hQx10f => exact fun _ _ _ h => h
                                    case hwx10f => rfl
                                    simp only [Act.put, List.setIfInBounds_toArray, List.set_cons_succ, List.set_cons_zero]
                                    refine' wpAnyH_take (i := 14) ?h1x14f ?hsx14f ?hfx14f ?hrx14f ?hQx14f (Or.inr ⟨?hwx14f, rfl⟩) hS ?restx14f
                                    case h1x14f => (simp only [List.getElem?_toArray, List.getElem?_cons_succ, List.getElem?_cons_zero]; rfl)
                                    case hsx14f => kernel_rfl
                                    case hfx14f => kernel_rfl
                                    case hrx14f => kernel_rfl
                                    case hQx14f => exact fun _ _ _ h => h
                                    case hwx14f => rfl
                                    simp only [Act.put, List.setIfInBounds_toArray, List.set_cons_succ, List.set_cons_zero]
                                    refine' wpAnyH_take (i := 11) ?h1x11f ?hsx11f ?hfx11f ?hrx11f ?hQx11f (Or.inr ⟨?hwx11f, rfl⟩) hS ?restx11f
                                    case h1x11f => (simp only [List.getElem?_toArray, List.getElem?_cons_succ, List.getElem?_cons_zero]; rfl)
                                    case hsx11f => kernel_rfl
                                    case hfx11f => kernel_rfl
                                    case hrx11f => kernel_rfl
                                    case hQx11f => exact fun _ _ _ h => h
                                    case hwx11f => rfl
                                    simp only [Act.put, List.setIfInBounds_toArray, List.set_cons_succ, List.set_cons_zero]
                                    refine' wpAnyH_take (i := 15) ?h1x15f ?hsx15f ?hfx15f ?hrx15f ?hQx15f (Or.inr ⟨?hwx15f, rfl⟩) hS ?restx15f
                                    case h1x15f => (simp only [List.getElem?_toArray, List.getElem?_cons_succ, List.getElem?_cons_zero]; rfl)
                                    case hsx15f => kernel_rfl
                                    case hfx15f => kernel_rfl
                                    case hrx15f => kernel_rfl
                                    case hQx15f => exact fun _ _ _ h => h
                                    case hwx15f => rfl
                                    simp only [Act.put, List.setIfInBounds_toArray, List.set_cons_succ, List.set_cons_zero]
                                    refine' wpAnyH_take (i := 12) ?h1x12f ?hsx12f ?hfx12f ?hrx12f ?hQx12f (Or.inr ⟨?hwx12f, rfl⟩) hS ?restx12f
                                    case h1x12f => (simp only [List.getElem?_toArray, List.getElem?_cons_succ, List.getElem?_cons_zero]; rfl)
                                    case hsx12f => kernel_rfl
                                    case hfx12f => kernel_rfl
                                    case hrx12f => kernel_rfl
                                    case hQx12f => exact fun _ _ _ h => h
                                    case hwx12f => rfl
                                    simp only [Act.put, List.setIfInBounds_toArray, List.set_cons_succ, List.set_cons_zero]
                                    refine' wpAnyH_take (i := 13) ?h1x13f ?hsx13f ?hfx13f ?hrx13f ?hQx13f (Or.inr ⟨?hwx13f, rfl⟩) hS ?restx13f
                                    case h1x13f => (simp only [List.getElem?_toArray, List.getElem?_cons_succ, List.getElem?_cons_zero]; rfl)
                                    case hsx13f => kernel_rfl
                                    case hfx13f => kernel_rfl
                                    case hrx13f => kernel_rfl
                                    case hQx13f => exact fun _ _ _ h => h
                                    case hwx13f => rfl
                                    simp only [Act.put, List.setIfInBounds_toArray, List.set_cons_succ, List.set_cons_zero]
                                    refine' wpAnyH_take (i := 16) ?h1x16f ?hsx16f ?hfx16f ?hrx16f ?hQx16f (Or.inr ⟨?hwx16f, rfl⟩) hS ?restx16f
                                    case h1x16f => (simp only [List.getElem?_toArray, List.getElem?_cons_succ, List.getElem?_cons_zero]; rfl)
                                    case hsx16f => kernel_rfl
                                    case hfx16f => kernel_rfl
                                    case hrx16f => kernel_rfl
                                    case hQx16f => exact fun _ _ _ h => h
                                    case hwx16f => rfl
                                    simp only [Act.put, List.setIfInBounds_toArray, List.set_cons_succ, List.set_cons_zero]
                                    refine' wpAnyH_take (i := 17) ?h1x17f ?hsx17f ?hfx17f ?hrx17f ?hQx17f (Or.inr ⟨?hwx17f, rfl⟩) hS ?restx17f
                                    case h1x17f => (simp only [List.getElem?_toArray, List.getElem?_cons_succ, List.getElem?_cons_zero]; rfl)
                                    case hsx17f => kernel_rfl
                                    case hfx17f => kernel_rfl
                                    case hrx17f => kernel_rfl
                                    case hQx17f => exact fun _ _ _ h => h
                                    case hwx17f => rfl
                                    simp only [Act.put, List.setIfInBounds_toArray, List.set_cons_succ, List.set_cons_zero]
                                    refine' wpAnyH_take (i := 18) ?h1x18f ?hsx18f ?hfx18f ?hrx18f ?hQx18f (Or.inr ⟨?hwx18f, rfl⟩) hS ?restx18f
                                    case h1x18f => (simp only [List.getElem?_toArray, List.getElem?_cons_succ, List.getElem?_cons_zero]; rfl)
                                    case hsx18f => kernel_rfl
                                    case hfx18f => kernel_rfl
                                    case hrx18f => kernel_rfl
                                    case hQx18f => exact fun _ _ _ h => h
                                    case hwx18f => rfl
                                    simp only [Act.put, List.setIfInBounds_toArray, List.set_cons_succ, List.set_cons_zero]
                                    refine' wpAnyH_take (i := 19) ?h1x19f ?hsx19f ?hfx19f ?hrx19f ?hQx19f (Or.inr ⟨?hwx19f, rfl⟩) hS ?restx19f
                                    case h1x19f => (simp only [List.getElem?_toArray, List.getElem?_cons_succ, List.getElem?_cons_zero]; rfl)
                                    case hsx19f => kernel_rfl
                                    case hfx19f => kernel_rfl
                                    case hrx19f => kernel_rfl
                                    case hQx19f => exact fun _ _ _ h => h
                                    case hwx19f => rfl
                                    simp only [Act.put, List.setIfInBounds_toArray, List.set_cons_succ, List.set_cons_zero]
                                    refine' wpAnyH_take (i := 23) ?h1x23f ?hsx23f ?hfx23f ?hrx23f ?hQx23f (Or.inr ⟨?hwx23f, rfl⟩) hS ?restx23f
                                    case h1x23f => (simp only [List.getElem?_toArray, List.getElem?_cons_succ, List.getElem?_cons_zero]; rfl)
                                    case hsx23f => kernel_rfl
                                    case hfx23f => kernel_rfl
                                    case hrx23f => kernel_rfl
                                    case hQx23f => exact fun _ _ _ h => h
                                    case hwx23f => rfl
                                    simp only [Act.put, List.setIfInBounds_toArray, List.set_cons_succ, List.set_cons_zero]
                                    refine' wpAnyH_take (i := 20) ?h1x20f ?hsx20f ?hfx20f ?hrx20f ?hQx20f (Or.inr ⟨?hwx20f, rfl⟩) hS ?restx20f
                                    case h1x20f => (simp only [List.getElem?_toArray, List.getElem?_cons_succ, List.getElem?_cons_zero]; rfl)
                                    case hsx20f => kernel_rfl
                                    case hfx20f => kernel_rfl
                                    case hrx20f => kernel_rfl
                                    case hQx20f => exact fun _ _ _ h => h
                                    case hwx20f => rfl
                                    simp only [Act.put, List.setIfInBounds_toArray, List.set_cons_succ, List.set_cons_zero]
                                    refine' wpAnyH_take (i := 24) ?h1x24f ?hsx24f ?hfx24f ?hrx24f ?hQx24f (Or.inr ⟨?hwx24f, rfl⟩) hS ?restx24f
                                    case h1x24f => (simp only [List.getElem?_toArray, List.getElem?_cons_succ, List.getElem?_cons_zero]; rfl)
                                    case hsx24f => kernel_rfl
                                    case hfx24f => kernel_rfl
                                    case hrx24f => kernel_rfl
                                    case hQx24f => exact fun _ _ _ h => h
                                    case hwx24f => rfl
                                    simp only [Act.put, List.setIfInBounds_toArray, List.set_cons_succ, List.set_cons_zero]
                                    refine' wpAnyH_take (i := 21) ?h1x21f ?hsx21f ?hfx21f ?hrx21f ?hQx21f (Or.inr ⟨?hwx21f, rfl⟩) hS ?restx21f
                                    case h1x21f => (simp only [List.getElem?_toArray, List.getElem?_cons_succ, List.getElem?_cons_zero]; rfl)
                                    case hsx21f => kernel_rfl
                                    case hfx21f => kernel_rfl
                                    case hrx21f => kernel_rfl
                                    case hQx21f => exact fun _ _ _ h => h
                                    case hwx21f => rfl
                                    simp only [Act.put, List.setIfInBounds_toArray, List.set_cons_succ, List.set_cons_zero]
                                    refine' wpAnyH_take (i := 22) ?h1x22f ?hsx22f ?hfx22f ?hrx22f ?hQx22f (Or.inr ⟨?hwx22f, rfl⟩) hS ?restx22f
                                    case h1x22f => (simp only [List.getElem?_toArray, List.getElem?_cons_succ, List.getElem?_cons_zero]; rfl)
                                    case hsx22f => kernel_rfl
                                    case hfx22f => kernel_rfl
                                    case hrx22f => kernel_rfl
                                    case hQx22f => exact fun _ _ _ h => h
                                    case hwx22f => rfl
                                    simp only [Act.put, List.setIfInBounds_toArray, List.set_cons_succ, List.set_cons_zero]
                                    refine' wpAnyH_take (i := 25) ?h1x25f ?hsx25f ?hfx25f ?hrx25f ?hQx25f (Or.inr ⟨?hwx25f, rfl⟩) hS ?restx25f
                                    case h1x25f => (simp only [List.getElem?_toArray, List.getElem?_cons_succ, List.getElem?_cons_zero]; rfl)
                                    case hsx25f => kernel_rfl
                                    case hfx25f => kernel_rfl
                                    case hrx25f => kernel_rfl
                                    case hQx25f => exact fun _ _ _ h => h
                                    case hwx25f => rfl
                                    simp only [Act.put, List.setIfInBounds_toArray, List.set_cons_succ, List.set_cons_zero]
                                    refine' wpAnyH_take (i := 26) ?h1x26f ?hsx26f ?hfx26f ?hrx26f ?hQx26f (Or.inr ⟨?hwx26f, rfl⟩) hS ?restx26f
                                    case h1x26f => (simp only [List.getElem?_toArray, List.getElem?_cons_succ, List.getElem?_cons_zero]; rfl)
                                    case hsx26f => kernel_rfl
                                    case hfx26f => kernel_rfl
                                    case hrx26f => kernel_rfl
                                    case hQx26f => exact fun _ _ _ h => h
                                    case hwx26f => rfl
                                    simp only [Act.put, List.setIfInBounds_toArray, List.set_cons_succ, List.set_cons_zero]
                                    refine' wpAnyH_take (i := 27) ?h1x27f ?hsx27f ?hfx27f ?hrx27f ?hQx27f (Or.inl ⟨?hwx27f, ?hyx27f⟩) hS ?restx27f
                                    case h1x27f => (simp only [List.getElem?_toArray, List.getElem?_cons_succ, List.getElem?_cons_zero]; rfl)
                                    case hsx27f => kernel_rfl
                                    case hfx27f => kernel_rfl
                                    case hrx27f => kernel_rfl
                                    case hQx27f => exact fun _ _ _ h => h
                                    case hwx27f => rfl
                                    case hyx27f =>
                                      intro W hW
                                      go_simp
                                      try with_reducible rfl
                                    simp only [Act.put, List.setIfInBounds_toArray, List.set_cons_succ, List.set_cons_zero]
                                    refine wpAnyH_done (by kernel_rfl) ?_ _
                                    go_wp2_with fail
                                    go_meet
                                    exact ⟨rfl, hS.1, G3.out, G4.out, G5.out, G7.out, G9.out, G11.out, G14.out, G16.out⟩
                              case rest =>
                                as_aux_lemma =>
                                  clear BE G3 G4 G5 G7 G9 G11 G14 G16
                                  obtain ⟨rfl, hbe, rG3, rG4, rG5, rG7, rG9, rG11, rG14, rG16⟩ := hcut
                                  have BE := Lib.hid hbe
                                  have G3 : Hid (_ = some (Obj.cells (ocells h s z) 55 (0, 0))) := rG3
                                  have G4 : Hid (_ = some (Obj.cells (ncells tz r q c) 57 (0, 0))) := rG4
                                  have G5 : Hid (_ = some (Obj.cells (bcells v) 38 (0, 0))) := rG5
                                  have G7 : Hid (_ = some (Obj.cells (bcells L7) 38 (0, 0))) := rG7
                                  have G9 : Hid (_ = some (Obj.cells (bcells L9) 38 (0, 0))) := rG9
                                  have G11 : Hid (_ = some (Obj.cells #[.int .u8 (b2i h)] 5 (0, 0))) := rG11
                                  have G14 : Hid (_ = some (Obj.cells (ocells ph ps pz) 55 (0, 0))) := rG14
                                  have G16 : Hid (_ = some (Obj.cells (ncells qz qr qq qc) 57 (0, 0))) := rG16
                                  clear hbe rG3 rG4 rG5 rG7 rG9 rG11 rG14 rG16
                                  clear HR
                                  go_upto_region 20 with (fail)
                                  rcases HN.out with ⟨rfl, e1, e2, e3, e4, e5⟩ | ⟨rfl, e1, rfl, rfl, rfl, rfl⟩
                                  · have qc0 : 0 ≤ qc := by rw [← e5]; exact (Bv.out.nth 36).1
                                    have qc1 : qc ≤ 255 := by rw [← e5]; exact (Bv.out.nth 36).2
                                    have CV36 : Hid (∀ W : World, W.heap[w.heap.size + 1 + 1]? = some (.cells (bcells v) 38 (0, 0)) → W.cell? ⟨w.heap.size + 1 + 1, 36, none⟩ = some (.int .u8 qc)) := fun W hW => by
                                      have := Lv.out
                                      rw [← e5, cell_of_row _ _ _ _ _ _ hW]; simp [bcells, nth, List.getD, show 36 < v.length by omega]
                                    have D2 : Hid (∀ W : World, W.heap[w.heap.size + 1 + 1]? = some (.cells (bcells v) 38 (0, 0)) → Calls Try.prog 24 #[.slice (some ⟨w.heap.size + 1 + 1, 32, none⟩) 2 12] W fun e w' => e = .returned (.int .u64 qr) ∧ W = w') := fun W hW => by
                                      rw [← e3]
                                      exact numC (w.heap.size + 1 + 1) 38 32 2 v Bv.out (by rw [Lv.out]; decide) (by decide) (by decide) 12 (by decide) (by decide) W hW
                                    have D3 : Hid (∀ W : World, W.heap[w.heap.size + 1 + 1]? = some (.cells (bcells v) 38 (0, 0)) → Calls Try.prog 24 #[.slice (some ⟨w.heap.size + 1 + 1, 34, none⟩) 2 10] W fun e w' => e = .returned (.int .u64 qq) ∧ W = w') := fun W hW => by
                                      rw [← e4]
                                      exact numC (w.heap.size + 1 + 1) 38 34 2 v Bv.out (by rw [Lv.out]; decide) (by decide) (by decide) 10 (by decide) (by decide) W hW
                                    have SV0 : Hid (∀ W : World, W.heap[w.heap.size + 1 + 1]? = some (.cells (bcells v) 38 (0, 0)) → Sees W (.slice (some ⟨w.heap.size + 1 + 1, 0, none⟩) 32 44) qz) := fun W hW => by
                                      rw [← e2]
                                      exact sees_part W _ _ v Bv.out hW 0 32 44 (by rw [Lv.out]; decide) (by decide) (by decide) (by decide)
                                    have WQR := Lib.hid (wrap65 Rqr.out.1 Rqr.out.2)
                                    have WQQ := Lib.hid (wrap65 Rqq.out.1 Rqq.out.2)
                                    have WQC := Lib.hid (wrapi qc0 qc1)
                                    have qr0 : 0 ≤ qr := Rqr.out.1
                                    have qr1 : qr ≤ 65535 := Rqr.out.2
                                    have qq0 : 0 ≤ qq := Rqq.out.1
                                    have qq1 : qq ≤ 65535 := Rqq.out.2
                                    clear e1 e2 e3 e4 e5 HN
                                    refine wp_region_held_drew (S := fun W => Below w.heap.size w W ∧ W.heap[(q16)]? = some (.cells (ncells qz qr qq qc) 57 (0, 0)) ∧ W.heap[(w.heap.size + 1 + 1)]? = some (.cells (bcells v) 38 (0, 0))) (by kernel_rfl) (⟨BE.out.drew, G16.out, G5.out⟩) (fun hS => ?_)
                                    have hb0 : Below wc.heap.size wc wc.drew := (Below.refl _ _).drew
                                    have qG3 := (hb0.block _ (blk_lt G3.out)).trans G3.out
                                    have qG4 := (hb0.block _ (blk_lt G4.out)).trans G4.out
                                    have qG5 := (hb0.block _ (blk_lt G5.out)).trans G5.out
                                    have qG7 := (hb0.block _ (blk_lt G7.out)).trans G7.out
                                    have qG9 := (hb0.block _ (blk_lt G9.out)).trans G9.out
                                    have qG11 := (hb0.block _ (blk_lt G11.out)).trans G11.out
                                    have qG14 := (hb0.block _ (blk_lt G14.out)).trans G14.out
                                    have qG16 := (hb0.block _ (blk_lt G16.out)).trans G16.out
                                    clear hb0 G3 G4 G5 G7 G9 G11 G14 G16
                                    generalize wc.drew = Wgs at hS qG3 qG4 qG5 qG7 qG9 qG11 qG14 qG16 ⊢
                                    have G3 := Lib.hid qG3
                                    have G4 := Lib.hid qG4
                                    have G5 := Lib.hid qG5
                                    have G7 := Lib.hid qG7
                                    have G9 := Lib.hid qG9
                                    have G11 := Lib.hid qG11
                                    have G14 := Lib.hid qG14
                                    have G16 := Lib.hid qG16
                                    clear qG3 qG4 qG5 qG7 qG9 qG11 qG14 qG16
                                    refine wpAnyH_ready (rs := [0]) (by kernel_rfl) (by simp) ?_
                                    refine' (AllReadyH.cons ?hoc0g (fun K hK => ?stc0g) AllReadyH.nil)
                                    case hoc0g => (simp only [List.getElem?_toArray, List.getElem?_cons_zero]; rfl)
                                    go_simp
                                    refine (alive23 Wgs).mono ?_
                                    rintro e Wgx0 ⟨rfl, hb⟩
                                    have G3 := Lib.hid ((hb.block _ (blk_lt G3.out)).trans G3.out)
                                    have G4 := Lib.hid ((hb.block _ (blk_lt G4.out)).trans G4.out)
                                    have G5 := Lib.hid ((hb.block _ (blk_lt G5.out)).trans G5.out)
                                    have G7 := Lib.hid ((hb.block _ (blk_lt G7.out)).trans G7.out)
                                    have G9 := Lib.hid ((hb.block _ (blk_lt G9.out)).trans G9.out)
                                    have G11 := Lib.hid ((hb.block _ (blk_lt G11.out)).trans G11.out)
                                    have G14 := Lib.hid ((hb.block _ (blk_lt G14.out)).trans G14.out)
                                    have G16 := Lib.hid ((hb.block _ (blk_lt G16.out)).trans G16.out)
                                    go_wp2_with fail
                                    refine hK.out _ _ (⟨hS.1.trans (hb.mono hS.1.size), (hb.block _ (blk_lt hS.2.1)).trans hS.2.1, (hb.block _ (blk_lt hS.2.2)).trans hS.2.2⟩) (fun hHeld => ?_)
                                    clear hK K
                                    try simp only [Act.put, List.setIfInBounds_toArray, List.set_cons_succ, List.set_cons_zero]
                                    clear hS
                                    have hS := hHeld
                                    clear hHeld
                                    clear hb
                                    refine' wpAnyH_take (i := 1) ?h1x1gx0 ?hsx1gx0 ?hfx1gx0 ?hrx1gx0 ?hQx1gx0 (Or.inl ⟨?hwx1gx0, ?hyx1gx0⟩) hS ?restx1gx0
                                    case h1x1gx0 => (simp only [List.getElem?_toArray, List.getElem?_cons_succ, List.getElem?_cons_zero]; rfl)
                                    case hsx1gx0 => kernel_rfl
                                    case hfx1gx0 => kernel_rfl
                                    case hrx1gx0 => kernel_rfl
                                    case hQx1gx0 => exact fun _ _ _ h => h
                                    case hwx1gx0 => rfl
                                    case hyx1gx0 =>
                                      intro W hW
                                      go_simp
                                      try with_reducible rfl
                                    simp only [Act.put, List.setIfInBounds_toArray, List.set_cons_succ, List.set_cons_zero]
                                    refine' wpAnyH_take (i := 2) ?h1x2gx0 ?hsx2gx0 ?hfx2gx0 ?hrx2gx0 ?hQx2gx0 (Or.inl ⟨?hwx2gx0, ?hyx2gx0⟩) hS ?restx2gx0
                                    case h1x2gx0 => (simp only [List.getElem?_toArray, List.getElem?_cons_succ, List.getElem?_cons_zero]; rfl)
                                    case hsx2gx0 => kernel_rfl
                                    case hfx2gx0 => kernel_rfl
                                    case hrx2gx0 => kernel_rfl
                                    case hQx2gx0 => exact fun _ _ _ h => h
                                    case hwx2gx0 => rfl
                                    case hyx2gx0 =>
                                      intro W hW
                                      go_simp
                                      try with_reducible rfl
                                    simp only [Act.put, List.setIfInBounds_toArray, List.set_cons_succ, List.set_cons_zero]
                                    refine' wpAnyH_take (i := 3) ?h1x3gx0 ?hsx3gx0 ?hfx3gx0 ?hrx3gx0 ?hQx3gx0 (Or.inl ⟨?hwx3gx0, ?hyx3gx0⟩) hS ?restx3gx0
                                    case h1x3gx0 => (simp only [List.getElem?_toArray, List.getElem?_cons_succ, List.getElem?_cons_zero]; rfl)
                                    case hsx3gx0 => kernel_rfl
                                    case hfx3gx0 => kernel_rfl
                                    case hrx3gx0 => kernel_rfl
                                    case hQx3gx0 => exact fun _ _ _ h => h
                                    case hwx3gx0 => rfl
                                    case hyx3gx0 =>
                                      intro W hW
                                      go_simp
                                      try with_reducible rfl
                                    simp only [Act.put, List.setIfInBounds_toArray, List.set_cons_succ, List.set_cons_zero]
                                    refine' wpAnyH_take (i := 4) ?h1x4gx0 ?hsx4gx0 ?hfx4gx0 ?hrx4gx0 ?hQx4gx0 (Or.inl ⟨?hwx4gx0, ?hyx4gx0⟩) hS ?restx4gx0
                                    case h1x4gx0 => (simp only [List.getElem?_toArray, List.getElem?_cons_succ, List.getElem?_cons_zero]; rfl)
                                    case hsx4gx0 => kernel_rfl
                                    case hfx4gx0 => kernel_rfl
                                    case hrx4gx0 => kernel_rfl
                                    case hQx4gx0 => exact fun _ _ _ h => h
                                    case hwx4gx0 => rfl
                                    case hyx4gx0 =>
                                      intro W hW
                                      go_simp
                                      try with_reducible rfl
                                    simp only [Act.put, List.setIfInBounds_toArray, List.set_cons_succ, List.set_cons_zero]
                                    refine' wpAnyH_take (i := 5) ?h1x5gx0 ?hsx5gx0 ?hfx5gx0 ?hrx5gx0 ?hQx5gx0 (Or.inl ⟨?hwx5gx0, ?hyx5gx0⟩) hS ?restx5gx0
                                    case h1x5gx0 => (simp only [List.getElem?_toArray, List.getElem?_cons_succ, List.getElem?_cons_zero]; rfl)
                                    case hsx5gx0 => kernel_rfl
                                    case hfx5gx0 => kernel_rfl
                                    case hrx5gx0 => kernel_rfl
                                    case hQx5gx0 => exact fun _ _ _ h => h
                                    case hwx5gx0 => rfl
                                    case hyx5gx0 =>
                                      intro W hW
                                      go_simp
                                      try with_reducible rfl
                                    simp only [Act.put, List.setIfInBounds_toArray, List.set_cons_succ, List.set_cons_zero]
                                    refine' wpAnyH_take (i := 8) ?h1x8gx0 ?hsx8gx0 ?hfx8gx0 ?hrx8gx0 ?hQx8gx0 (Or.inl ⟨?hwx8gx0, ?hyx8gx0⟩) hS ?restx8gx0
                                    case h1x8gx0 => (simp only [List.getElem?_toArray, List.getElem?_cons_succ, List.getElem?_cons_zero]; rfl)
                                    case hsx8gx0 => kernel_rfl
                                    case hfx8gx0 => kernel_rfl
                                    case hrx8gx0 => kernel_rfl
                                    case hQx8gx0 => exact fun _ _ _ h => h
                                    case hwx8gx0 => rfl
                                    case hyx8gx0 =>
                                      intro W hW
                                      go_simp
                                      try with_reducible rfl
                                    simp only [Act.put, List.setIfInBounds_toArray, List.set_cons_succ, List.set_cons_zero]
                                    refine' wpAnyH_take (i := 6) ?h1x6gx0 ?hsx6gx0 ?hfx6gx0 ?hrx6gx0 ?hQx6gx0 (Or.inl ⟨?hwx6gx0, ?hyx6gx0⟩) hS ?restx6gx0
                                    case h1x6gx0 => (simp only [List.getElem?_toArray, List.getElem?_cons_succ, List.getElem?_cons_zero]; rfl)
                                    case hsx6gx0 => kernel_rfl
                                    case hfx6gx0 => kernel_rfl
                                    case hrx6gx0 => kernel_rfl
                                    case hQx6gx0 => exact fun _ _ _ h => h
                                    case hwx6gx0 => rfl
                                    case hyx6gx0 =>
                                      intro W hW
                                      go_simp
                                      try with_reducible rfl
                                    simp only [Act.put, List.setIfInBounds_toArray, List.set_cons_succ, List.set_cons_zero]
                                    refine' wpAnyH_take (i := 9) ?h1x9gx0 ?hsx9gx0 ?hfx9gx0 ?hrx9gx0 ?hQx9gx0 (Or.inl ⟨?hwx9gx0, ?hyx9gx0⟩) hS ?restx9gx0
                                    case h1x9gx0 => (simp only [List.getElem?_toArray, List.getElem?_cons_succ, List.getElem?_cons_zero]; rfl)
                                    case hsx9gx0 => kernel_rfl
                                    case hfx9gx0 => kernel_rfl
                                    case hrx9gx0 => kernel_rfl
                                    case hQx9gx0 => exact fun _ _ _ h => h
                                    case hwx9gx0 => rfl
                                    case hyx9gx0 =>
                                      intro W hW
                                      have cv := (SV0.out _ hW.2.2).str
                                      go_simp
                                      try with_reducible rfl
                                    simp only [Act.put, List.setIfInBounds_toArray, List.set_cons_succ, List.set_cons_zero]
                                    refine' wpAnyH_take (i := 7) ?h1x7gx0 ?hsx7gx0 ?hfx7gx0 ?hrx7gx0 ?hQx7gx0 (Or.inl ⟨?hwx7gx0, ?hyx7gx0⟩) hS ?restx7gx0
                                    case h1x7gx0 => (simp only [List.getElem?_toArray, List.getElem?_cons_succ, List.getElem?_cons_zero]; rfl)
                                    case hsx7gx0 => kernel_rfl
                                    case hfx7gx0 => kernel_rfl
                                    case hrx7gx0 => kernel_rfl
                                    case hQx7gx0 => exact fun _ _ _ h => h
                                    case hwx7gx0 => rfl
                                    case hyx7gx0 =>
                                      intro W hW
                                      have cv := (nsum Bqz.out Lqz.out hW.2.1).str
                                      go_simp
                                      try with_reducible rfl
                                    simp only [Act.put, List.setIfInBounds_toArray, List.set_cons_succ, List.set_cons_zero]
                                    refine' wpAnyH_take (i := 10) ?h1x10gx0 ?hsx10gx0 ?hfx10gx0 ?hrx10gx0 ?hQx10gx0 (Or.inl ⟨?hwx10gx0, ?hyx10gx0⟩) hS ?restx10gx0
                                    case h1x10gx0 => (simp only [List.getElem?_toArray, List.getElem?_cons_succ, List.getElem?_cons_zero]; rfl)
                                    case hsx10gx0 => kernel_rfl
                                    case hfx10gx0 => kernel_rfl
                                    case hrx10gx0 => kernel_rfl
                                    case hQx10gx0 => exact fun _ _ _ h => h
                                    case hwx10gx0 => rfl
                                    case hyx10gx0 =>
                                      intro W hW
                                      go_simp
                                      try with_reducible rfl
                                    simp only [Act.put, List.setIfInBounds_toArray, List.set_cons_succ, List.set_cons_zero]
                                    refine' wpAnyH_take (i := 11) ?h1x11gx0 ?hsx11gx0 ?hfx11gx0 ?hrx11gx0 ?hQx11gx0 (Or.inl ⟨?hwx11gx0, ?hyx11gx0⟩) hS ?restx11gx0
                                    case h1x11gx0 => (simp only [List.getElem?_toArray, List.getElem?_cons_succ, List.getElem?_cons_zero]; rfl)
                                    case hsx11gx0 => kernel_rfl
                                    case hfx11gx0 => kernel_rfl
                                    case hrx11gx0 => kernel_rfl
                                    case hQx11gx0 => exact fun _ _ _ h => h
                                    case hwx11gx0 => rfl
                                    case hyx11gx0 =>
                                      intro W hW
                                      go_simp
                                      try with_reducible rfl
                                    simp only [Act.put, List.setIfInBounds_toArray, List.set_cons_succ, List.set_cons_zero]
                                    refine' wpAnyH_take (i := 12) ?h1x12gx0 ?hsx12gx0 ?hfx12gx0 ?hrx12gx0 ?hQx12gx0 (Or.inl ⟨?hwx12gx0, ?hyx12gx0⟩) hS ?restx12gx0
                                    case h1x12gx0 => (simp only [List.getElem?_toArray, List.getElem?_cons_succ, List.getElem?_cons_zero]; rfl)
                                    case hsx12gx0 => kernel_rfl
                                    case hfx12gx0 => kernel_rfl
                                    case hrx12gx0 => kernel_rfl
                                    case hQx12gx0 => exact fun _ _ _ h => h
                                    case hwx12gx0 => rfl
                                    case hyx12gx0 =>
                                      intro W hW
                                      go_simp
                                      try with_reducible rfl
                                    simp only [Act.put, List.setIfInBounds_toArray, List.set_cons_succ, List.set_cons_zero]
                                    refine' wpAnyH_take (i := 15) ?h1x15gx0 ?hsx15gx0 ?hfx15gx0 ?hrx15gx0 ?hQx15gx0 (Or.inl ⟨?hwx15gx0, ?hyx15gx0⟩) hS ?restx15gx0
                                    case h1x15gx0 => (simp only [List.getElem?_toArray, List.getElem?_cons_succ, List.getElem?_cons_zero]; rfl)
                                    case hsx15gx0 => kernel_rfl
                                    case hfx15gx0 => kernel_rfl
                                    case hrx15gx0 => kernel_rfl
                                    case hQx15gx0 => exact fun _ _ _ h => h
                                    case hwx15gx0 => rfl
                                    case hyx15gx0 =>
                                      intro W hW
                                      go_simp
                                      try with_reducible rfl
                                    simp only [Act.put, List.setIfInBounds_toArray, List.set_cons_succ, List.set_cons_zero]
                                    refine' wpAnyH_take (i := 13) ?h1x13gx0 ?hsx13gx0 ?hfx13gx0 ?hrx13gx0 ?hQx13gx0 (Or.inl ⟨?hwx13gx0, ?hyx13gx0⟩) hS ?restx13gx0
                                    case h1x13gx0 => (simp only [List.getElem?_toArray, List.getElem?_cons_succ, List.getElem?_cons_zero]; rfl)
                                    case hsx13gx0 => kernel_rfl
                                    case hfx13gx0 => kernel_rfl
                                    case hrx13gx0 => kernel_rfl
                                    case hQx13gx0 => exact fun _ _ _ h => h
                                    case hwx13gx0 => rfl
                                    case hyx13gx0 =>
                                      intro W hW
                                      have dd := (nc Lqz.out hW.2.1).1
                                      go_simp
                                      try with_reducible rfl
                                    simp only [Act.put, List.setIfInBounds_toArray, List.set_cons_succ, List.set_cons_zero]
                                    refine' wpAnyH_take (i := 14) ?h1x14gx0 ?hsx14gx0 ?hfx14gx0 ?hrx14gx0 ?hQx14gx0 (Or.inl ⟨?hwx14gx0, ?hyx14gx0⟩) hS ?restx14gx0
                                    case h1x14gx0 => (simp only [List.getElem?_toArray, List.getElem?_cons_succ, List.getElem?_cons_zero]; rfl)
                                    case hsx14gx0 => kernel_rfl
                                    case hfx14gx0 => kernel_rfl
                                    case hrx14gx0 => kernel_rfl
                                    case hQx14gx0 => exact fun _ _ _ h => h
                                    case hwx14gx0 => rfl
                                    case hyx14gx0 =>
                                      intro W hW
                                      have dd := WQR.out
                                      go_simp
                                      try with_reducible rfl
                                    simp only [Act.put, List.setIfInBounds_toArray, List.set_cons_succ, List.set_cons_zero]
                                    refine wpAnyH_ready (rs := [16]) (by kernel_rfl) (by simp) ?_
                                    refine' (AllReadyH.cons ?hoc16gx0 (fun K hK => ?stc16gx0) AllReadyH.nil)
                                    case hoc16gx0 => (simp only [List.getElem?_toArray, List.getElem?_cons_succ, List.getElem?_cons_zero]; rfl)
                                    go_simp
                                    refine (D2.out Wgx0 G5.out).mono ?_
                                    rintro e w' ⟨rfl, rfl⟩
                                    go_wp2_with fail
                                    refine hK.out _ _ hS (fun hHeld => ?_)
                                    clear hK K
                                    try simp only [Act.put, List.setIfInBounds_toArray, List.set_cons_succ, List.set_cons_zero]
                                    clear hS
                                    have hS := hHeld
                                    clear hHeld
                                    refine' wpAnyH_take (i := 17) ?h1x17gx0x16 ?hsx17gx0x16 ?hfx17gx0x16 ?hrx17gx0x16 ?hQx17gx0x16 (Or.inl ⟨?hwx17gx0x16, ?hyx17gx0x16⟩) hS ?restx17gx0x16
                                    case h1x17gx0x16 => (simp only [List.getElem?_toArray, List.getElem?_cons_succ, List.getElem?_cons_zero]; rfl)
                                    case hsx17gx0x16 => kernel_rfl
                                    case hfx17gx0x16 => kernel_rfl
                                    case hrx17gx0x16 => kernel_rfl
                                    case hQx17gx0x16 => exact fun _ _ _ h => h
                                    case hwx17gx0x16 => rfl
                                    case hyx17gx0x16 =>
                                      intro W hW
                                      go_simp
                                      try with_reducible rfl
                                    simp only [Act.put, List.setIfInBounds_toArray, List.set_cons_succ, List.set_cons_zero]
                                    refine' wpAnyH_take (i := 18) ?h1x18gx0x16 ?hsx18gx0x16 ?hfx18gx0x16 ?hrx18gx0x16 ?hQx18gx0x16 (Or.inl ⟨?hwx18gx0x16, ?hyx18gx0x16⟩) hS ?restx18gx0x16
                                    case h1x18gx0x16 => (simp only [List.getElem?_toArray, List.getElem?_cons_succ, List.getElem?_cons_zero]; rfl)
                                    case hsx18gx0x16 => kernel_rfl
                                    case hfx18gx0x16 => kernel_rfl
                                    case hrx18gx0x16 => kernel_rfl
                                    case hQx18gx0x16 => exact fun _ _ _ h => h
                                    case hwx18gx0x16 => rfl
                                    case hyx18gx0x16 =>
                                      intro W hW
                                      go_simp
                                      try with_reducible rfl
                                    simp only [Act.put, List.setIfInBounds_toArray, List.set_cons_succ, List.set_cons_zero]
                                    refine' wpAnyH_take (i := 19) ?h1x19gx0x16 ?hsx19gx0x16 ?hfx19gx0x16 ?hrx19gx0x16 ?hQx19gx0x16 (Or.inl ⟨?hwx19gx0x16, ?hyx19gx0x16⟩) hS ?restx19gx0x16
                                    case h1x19gx0x16 => (simp only [List.getElem?_toArray, List.getElem?_cons_succ, List.getElem?_cons_zero]; rfl)
                                    case hsx19gx0x16 => kernel_rfl
                                    case hfx19gx0x16 => kernel_rfl
                                    case hrx19gx0x16 => kernel_rfl
                                    case hQx19gx0x16 => exact fun _ _ _ h => h
                                    case hwx19gx0x16 => rfl
                                    case hyx19gx0x16 =>
                                      intro W hW
                                      go_simp
                                      try with_reducible rfl
                                    simp only [Act.put, List.setIfInBounds_toArray, List.set_cons_succ, List.set_cons_zero]
                                    refine' wpAnyH_take (i := 20) ?h1x20gx0x16 ?hsx20gx0x16 ?hfx20gx0x16 ?hrx20gx0x16 ?hQx20gx0x16 (Or.inl ⟨?hwx20gx0x16, ?hyx20gx0x16⟩) hS ?restx20gx0x16
                                    case h1x20gx0x16 => (simp only [List.getElem?_toArray, List.getElem?_cons_succ, List.getElem?_cons_zero]; rfl)
                                    case hsx20gx0x16 => kernel_rfl
                                    case hfx20gx0x16 => kernel_rfl
                                    case hrx20gx0x16 => kernel_rfl
                                    case hQx20gx0x16 => exact fun _ _ _ h => h
                                    case hwx20gx0x16 => rfl
                                    case hyx20gx0x16 =>
                                      intro W hW
                                      go_simp
                                      try with_reducible rfl
                                    simp only [Act.put, List.setIfInBounds_toArray, List.set_cons_succ, List.set_cons_zero]
                                    refine' wpAnyH_take (i := 23) ?h1x23gx0x16 ?hsx23gx0x16 ?hfx23gx0x16 ?hrx23gx0x16 ?hQx23gx0x16 (Or.inl ⟨?hwx23gx0x16, ?hyx23gx0x16⟩) hS ?restx23gx0x16
                                    case h1x23gx0x16 => (simp only [List.getElem?_toArray, List.getElem?_cons_succ, List.getElem?_cons_zero]; rfl)
                                    case hsx23gx0x16 => kernel_rfl
                                    case hfx23gx0x16 => kernel_rfl
                                    case hrx23gx0x16 => kernel_rfl
                                    case hQx23gx0x16 => exact fun _ _ _ h => h
                                    case hwx23gx0x16 => rfl
                                    case hyx23gx0x16 =>
                                      intro W hW
                                      go_simp
                                      try with_reducible rfl
                                    simp only [Act.put, List.setIfInBounds_toArray, List.set_cons_succ, List.set_cons_zero]
                                    refine' wpAnyH_take (i := 21) ?h1x21gx0x16 ?hsx21gx0x16 ?hfx21gx0x16 ?hrx21gx0x16 ?hQx21gx0x16 (Or.inl ⟨?hwx21gx0x16, ?hyx21gx0x16⟩) hS ?restx21gx0x16
                                    case h1x21gx0x16 => (simp only [List.getElem?_toArray, List.getElem?_cons_succ, List.getElem?_cons_zero]; rfl)
                                    case hsx21gx0x16 => kernel_rfl
                                    case hfx21gx0x16 => kernel_rfl
                                    case hrx21gx0x16 => kernel_rfl
                                    case hQx21gx0x16 => exact fun _ _ _ h => h
                                    case hwx21gx0x16 => rfl
                                    case hyx21gx0x16 =>
                                      intro W hW
                                      have dd := (nc Lqz.out hW.2.1).2.1
                                      go_simp
                                      try with_reducible rfl
                                    simp only [Act.put, List.setIfInBounds_toArray, List.set_cons_succ, List.set_cons_zero]
                                    refine' wpAnyH_take (i := 22) ?h1x22gx0x16 ?hsx22gx0x16 ?hfx22gx0x16 ?hrx22gx0x16 ?hQx22gx0x16 (Or.inl ⟨?hwx22gx0x16, ?hyx22gx0x16⟩) hS ?restx22gx0x16
                                    case h1x22gx0x16 => (simp only [List.getElem?_toArray, List.getElem?_cons_succ, List.getElem?_cons_zero]; rfl)
                                    case hsx22gx0x16 => kernel_rfl
                                    case hfx22gx0x16 => kernel_rfl
                                    case hrx22gx0x16 => kernel_rfl
                                    case hQx22gx0x16 => exact fun _ _ _ h => h
                                    case hwx22gx0x16 => rfl
                                    case hyx22gx0x16 =>
                                      intro W hW
                                      have dd := WQQ.out
                                      go_simp
                                      try with_reducible rfl
                                    simp only [Act.put, List.setIfInBounds_toArray, List.set_cons_succ, List.set_cons_zero]
                                    refine wpAnyH_ready (rs := [24]) (by kernel_rfl) (by simp) ?_
                                    refine' (AllReadyH.cons ?hoc24gx0x16 (fun K hK => ?stc24gx0x16) AllReadyH.nil)
                                    case hoc24gx0x16 => (simp only [List.getElem?_toArray, List.getElem?_cons_succ, List.getElem?_cons_zero]; rfl)
                                    go_simp
                                    refine (D3.out Wgx0 G5.out).mono ?_
                                    rintro e w' ⟨rfl, rfl⟩
                                    go_wp2_with fail
                                    refine hK.out _ _ hS (fun hHeld => ?_)
                                    clear hK K
                                    try simp only [Act.put, List.setIfInBounds_toArray, List.set_cons_succ, List.set_cons_zero]
                                    clear hS
                                    have hS := hHeld
                                    clear hHeld
                                    refine' wpAnyH_take (i := 25) ?h1x25gx0x16x24 ?hsx25gx0x16x24 ?hfx25gx0x16x24 ?hrx25gx0x16x24 ?hQx25gx0x16x24 (Or.inl ⟨?hwx25gx0x16x24, ?hyx25gx0x16x24⟩) hS ?restx25gx0x16x24
                                    case h1x25gx0x16x24 => (simp only [List.getElem?_toArray, List.getElem?_cons_succ, List.getElem?_cons_zero]; rfl)
                                    case hsx25gx0x16x24 => kernel_rfl
                                    case hfx25gx0x16x24 => kernel_rfl
                                    case hrx25gx0x16x24 => kernel_rfl
                                    case hQx25gx0x16x24 => exact fun _ _ _ h => h
                                    case hwx25gx0x16x24 => rfl
                                    case hyx25gx0x16x24 =>
                                      intro W hW
                                      go_simp
                                      try with_reducible rfl
                                    simp only [Act.put, List.setIfInBounds_toArray, List.set_cons_succ, List.set_cons_zero]
                                    refine' wpAnyH_take (i := 26) ?h1x26gx0x16x24 ?hsx26gx0x16x24 ?hfx26gx0x16x24 ?hrx26gx0x16x24 ?hQx26gx0x16x24 (Or.inl ⟨?hwx26gx0x16x24, ?hyx26gx0x16x24⟩) hS ?restx26gx0x16x24
                                    case h1x26gx0x16x24 => (simp only [List.getElem?_toArray, List.getElem?_cons_succ, List.getElem?_cons_zero]; rfl)
                                    case hsx26gx0x16x24 => kernel_rfl
                                    case hfx26gx0x16x24 => kernel_rfl
                                    case hrx26gx0x16x24 => kernel_rfl
                                    case hQx26gx0x16x24 => exact fun _ _ _ h => h
                                    case hwx26gx0x16x24 => rfl
                                    case hyx26gx0x16x24 =>
                                      intro W hW
                                      go_simp
                                      try with_reducible rfl
                                    simp only [Act.put, List.setIfInBounds_toArray, List.set_cons_succ, List.set_cons_zero]
                                    refine' wpAnyH_take (i := 27) ?h1x27gx0x16x24 ?hsx27gx0x16x24 ?hfx27gx0x16x24 ?hrx27gx0x16x24 ?hQx27gx0x16x24 (Or.inl ⟨?hwx27gx0x16x24, ?hyx27gx0x16x24⟩) hS ?restx27gx0x16x24
                                    case h1x27gx0x16x24 => (simp only [List.getElem?_toArray, List.getElem?_cons_succ, List.getElem?_cons_zero]; rfl)
                                    case hsx27gx0x16x24 => kernel_rfl
                                    case hfx27gx0x16x24 => kernel_rfl
                                    case hrx27gx0x16x24 => kernel_rfl
                                    case hQx27gx0x16x24 => exact fun _ _ _ h => h
                                    case hwx27gx0x16x24 => rfl
                                    case hyx27gx0x16x24 =>
                                      intro W hW
                                      go_simp
                                      try with_reducible rfl
                                    simp only [Act.put, List.setIfInBounds_toArray, List.set_cons_succ, List.set_cons_zero]
                                    refine' wpAnyH_take (i := 28) ?h1x28gx0x16x24 ?hsx28gx0x16x24 ?hfx28gx0x16x24 ?hrx28gx0x16x24 ?hQx28gx0x16x24 (Or.inl ⟨?hwx28gx0x16x24, ?hyx28gx0x16x24⟩) hS ?restx28gx0x16x24
                                    case h1x28gx0x16x24 => (simp only [List.getElem?_toArray, List.getElem?_cons_succ, List.getElem?_cons_zero]; rfl)
                                    case hsx28gx0x16x24 => kernel_rfl
                                    case hfx28gx0x16x24 => kernel_rfl
                                    case hrx28gx0x16x24 => kernel_rfl
                                    case hQx28gx0x16x24 => exact fun _ _ _ h => h
                                    case hwx28gx0x16x24 => rfl
                                    case hyx28gx0x16x24 =>
                                      intro W hW
                                      go_simp
                                      try with_reducible rfl
                                    simp only [Act.put, List.setIfInBounds_toArray, List.set_cons_succ, List.set_cons_zero]
                                    refine' wpAnyH_take (i := 30) ?h1x30gx0x16x24 ?hsx30gx0x16x24 ?hfx30gx0x16x24 ?hrx30gx0x16x24 ?hQx30gx0x16x24 (Or.inl ⟨?hwx30gx0x16x24, ?hyx30gx0x16x24⟩) hS ?restx30gx0x16x24
                                    case h1x30gx0x16x24 => (simp only [List.getElem?_toArray, List.getElem?_cons_succ, List.getElem?_cons_zero]; rfl)
                                    case hsx30gx0x16x24 => kernel_rfl
                                    case hfx30gx0x16x24 => kernel_rfl
                                    case hrx30gx0x16x24 => kernel_rfl
                                    case hQx30gx0x16x24 => exact fun _ _ _ h => h
                                    case hwx30gx0x16x24 => rfl
                                    case hyx30gx0x16x24 =>
                                      intro W hW
                                      go_simp
                                      try with_reducible rfl
                                    simp only [Act.put, List.setIfInBounds_toArray, List.set_cons_succ, List.set_cons_zero]
                                    refine' wpAnyH_take (i := 29) ?h1x29gx0x16x24 ?hsx29gx0x16x24 ?hfx29gx0x16x24 ?hrx29gx0x16x24 ?hQx29gx0x16x24 (Or.inl ⟨?hwx29gx0x16x24, ?hyx29gx0x16x24⟩) hS ?restx29gx0x16x24
                                    case h1x29gx0x16x24 => (simp only [List.getElem?_toArray, List.getElem?_cons_succ, List.getElem?_cons_zero]; rfl)
                                    case hsx29gx0x16x24 => kernel_rfl
                                    case hfx29gx0x16x24 => kernel_rfl
                                    case hrx29gx0x16x24 => kernel_rfl
                                    case hQx29gx0x16x24 => exact fun _ _ _ h => h
                                    case hwx29gx0x16x24 => rfl
                                    case hyx29gx0x16x24 =>
                                      intro W hW
                                      have dd := (nc Lqz.out hW.2.1).2.2
                                      go_simp
                                      try with_reducible rfl
                                    simp only [Act.put, List.setIfInBounds_toArray, List.set_cons_succ, List.set_cons_zero]
                                    refine' wpAnyH_take (i := 31) ?h1x31gx0x16x24 ?hsx31gx0x16x24 ?hfx31gx0x16x24 ?hrx31gx0x16x24 ?hQx31gx0x16x24 (Or.inl ⟨?hwx31gx0x16x24, ?hyx31gx0x16x24⟩) hS ?restx31gx0x16x24
                                    case h1x31gx0x16x24 => (simp only [List.getElem?_toArray, List.getElem?_cons_succ, List.getElem?_cons_zero]; rfl)
                                    case hsx31gx0x16x24 => kernel_rfl
                                    case hfx31gx0x16x24 => kernel_rfl
                                    case hrx31gx0x16x24 => kernel_rfl
                                    case hQx31gx0x16x24 => exact fun _ _ _ h => h
                                    case hwx31gx0x16x24 => rfl
                                    case hyx31gx0x16x24 =>
                                      intro W hW
                                      have dd := CV36.out _ hW.2.2
                                      go_simp
                                      try with_reducible rfl
                                    simp only [Act.put, List.setIfInBounds_toArray, List.set_cons_succ, List.set_cons_zero]
                                    refine' wpAnyH_take (i := 32) ?h1x32gx0x16x24 ?hsx32gx0x16x24 ?hfx32gx0x16x24 ?hrx32gx0x16x24 ?hQx32gx0x16x24 (Or.inl ⟨?hwx32gx0x16x24, ?hyx32gx0x16x24⟩) hS ?restx32gx0x16x24
                                    case h1x32gx0x16x24 => (simp only [List.getElem?_toArray, List.getElem?_cons_succ, List.getElem?_cons_zero]; rfl)
                                    case hsx32gx0x16x24 => kernel_rfl
                                    case hfx32gx0x16x24 => kernel_rfl
                                    case hrx32gx0x16x24 => kernel_rfl
                                    case hQx32gx0x16x24 => exact fun _ _ _ h => h
                                    case hwx32gx0x16x24 => rfl
                                    case hyx32gx0x16x24 =>
                                      intro W hW
                                      have dd := WQC.out
                                      go_simp
                                      try with_reducible rfl
                                    simp only [Act.put, List.setIfInBounds_toArray, List.set_cons_succ, List.set_cons_zero]
                                    refine' wpAnyH_take (i := 33) ?h1x33gx0x16x24 ?hsx33gx0x16x24 ?hfx33gx0x16x24 ?hrx33gx0x16x24 ?hQx33gx0x16x24 (Or.inl ⟨?hwx33gx0x16x24, ?hyx33gx0x16x24⟩) hS ?restx33gx0x16x24
                                    case h1x33gx0x16x24 => (simp only [List.getElem?_toArray, List.getElem?_cons_succ, List.getElem?_cons_zero]; rfl)
                                    case hsx33gx0x16x24 => kernel_rfl
                                    case hfx33gx0x16x24 => kernel_rfl
                                    case hrx33gx0x16x24 => kernel_rfl
                                    case hQx33gx0x16x24 => exact fun _ _ _ h => h
                                    case hwx33gx0x16x24 => rfl
                                    case hyx33gx0x16x24 =>
                                      intro W hW
                                      go_simp
                                      try with_reducible rfl
                                    simp only [Act.put, List.setIfInBounds_toArray, List.set_cons_succ, List.set_cons_zero]
                                    refine' wpAnyH_take (i := 34) ?h1x34gx0x16x24 ?hsx34gx0x16x24 ?hfx34gx0x16x24 ?hrx34gx0x16x24 ?hQx34gx0x16x24 (Or.inl ⟨?hwx34gx0x16x24, ?hyx34gx0x16x24⟩) hS ?restx34gx0x16x24
                                    case h1x34gx0x16x24 => (simp only [List.getElem?_toArray, List.getElem?_cons_succ, List.getElem?_cons_zero]; rfl)
                                    case hsx34gx0x16x24 => kernel_rfl
                                    case hfx34gx0x16x24 => kernel_rfl
                                    case hrx34gx0x16x24 => kernel_rfl
                                    case hQx34gx0x16x24 => exact fun _ _ _ h => h
                                    case hwx34gx0x16x24 => rfl
                                    case hyx34gx0x16x24 =>
                                      intro W hW
                                      go_simp
                                      try with_reducible rfl
                                    simp only [Act.put, List.setIfInBounds_toArray, List.set_cons_succ, List.set_cons_zero]
                                    refine' wpAnyH_take (i := 35) ?h1x35gx0x16x24 ?hsx35gx0x16x24 ?hfx35gx0x16x24 ?hrx35gx0x16x24 ?hQx35gx0x16x24 (Or.inl ⟨?hwx35gx0x16x24, ?hyx35gx0x16x24⟩) hS ?restx35gx0x16x24
                                    case h1x35gx0x16x24 => (simp only [List.getElem?_toArray, List.getElem?_cons_succ, List.getElem?_cons_zero]; rfl)
                                    case hsx35gx0x16x24 => kernel_rfl
                                    case hfx35gx0x16x24 => kernel_rfl
                                    case hrx35gx0x16x24 => kernel_rfl
                                    case hQx35gx0x16x24 => exact fun _ _ _ h => h
                                    case hwx35gx0x16x24 => rfl
                                    case hyx35gx0x16x24 =>
                                      intro W hW
                                      go_simp
                                      try with_reducible rfl
                                    simp only [Act.put, List.setIfInBounds_toArray, List.set_cons_succ, List.set_cons_zero]
                                    refine' wpAnyH_take (i := 36) ?h1x36gx0x16x24 ?hsx36gx0x16x24 ?hfx36gx0x16x24 ?hrx36gx0x16x24 ?hQx36gx0x16x24 (Or.inl ⟨?hwx36gx0x16x24, ?hyx36gx0x16x24⟩) hS ?restx36gx0x16x24
                                    case h1x36gx0x16x24 => (simp only [List.getElem?_toArray, List.getElem?_cons_succ, List.getElem?_cons_zero]; rfl)
                                    case hsx36gx0x16x24 => kernel_rfl
                                    case hfx36gx0x16x24 => kernel_rfl
                                    case hrx36gx0x16x24 => kernel_rfl
                                    case hQx36gx0x16x24 => exact fun _ _ _ h => h
                                    case hwx36gx0x16x24 => rfl
                                    case hyx36gx0x16x24 =>
                                      intro W hW
                                      go_simp
                                      try with_reducible rfl
                                    simp only [Act.put, List.setIfInBounds_toArray, List.set_cons_succ, List.set_cons_zero]
                                    refine' wpAnyH_take (i := 37) ?h1x37gx0x16x24 ?hsx37gx0x16x24 ?hfx37gx0x16x24 ?hrx37gx0x16x24 ?hQx37gx0x16x24 (Or.inl ⟨?hwx37gx0x16x24, ?hyx37gx0x16x24⟩) hS ?restx37gx0x16x24
                                    case h1x37gx0x16x24 => (simp only [List.getElem?_toArray, List.getElem?_cons_succ, List.getElem?_cons_zero]; rfl)
                                    case hsx37gx0x16x24 => kernel_rfl
                                    case hfx37gx0x16x24 => kernel_rfl
                                    case hrx37gx0x16x24 => kernel_rfl
                                    case hQx37gx0x16x24 => exact fun _ _ _ h => h
                                    case hwx37gx0x16x24 => rfl
                                    case hyx37gx0x16x24 =>
                                      intro W hW
                                      go_simp
                                      try with_reducible rfl
                                    simp only [Act.put, List.setIfInBounds_toArray, List.set_cons_succ, List.set_cons_zero]
                                    refine wpAnyH_done (by kernel_rfl) ?_ _
                                    go_wp2_with fail
                                    go_ret
                                    exact ⟨rfl, hS.1⟩
                                  · clear e1 HN
                                    refine wp_region_held_drew (S := fun W => Below w.heap.size w W ∧ W.heap[(q16)]? = some (.cells (ncells (zs 32) 0 0 0) 57 (0, 0)) ∧ W.heap[(w.heap.size + 1 + 1)]? = some (.cells (bcells v) 38 (0, 0))) (by kernel_rfl) (⟨BE.out.drew, G16.out, G5.out⟩) (fun hS => ?_)
                                    have hb0 : Below wc.heap.size wc wc.drew := (Below.refl _ _).drew
                                    have qG3 := (hb0.block _ (blk_lt G3.out)).trans G3.out
                                    have qG4 := (hb0.block _ (blk_lt G4.out)).trans G4.out
                                    have qG5 := (hb0.block _ (blk_lt G5.out)).trans G5.out
                                    have qG7 := (hb0.block _ (blk_lt G7.out)).trans G7.out
                                    have qG9 := (hb0.block _ (blk_lt G9.out)).trans G9.out
                                    have qG11 := (hb0.block _ (blk_lt G11.out)).trans G11.out
                                    have qG14 := (hb0.block _ (blk_lt G14.out)).trans G14.out
                                    have qG16 := (hb0.block _ (blk_lt G16.out)).trans G16.out
                                    clear hb0 G3 G4 G5 G7 G9 G11 G14 G16
                                    generalize wc.drew = Whs at hS qG3 qG4 qG5 qG7 qG9 qG11 qG14 qG16 ⊢
                                    have G3 := Lib.hid qG3
                                    have G4 := Lib.hid qG4
                                    have G5 := Lib.hid qG5
                                    have G7 := Lib.hid qG7
                                    have G9 := Lib.hid qG9
                                    have G11 := Lib.hid qG11
                                    have G14 := Lib.hid qG14
                                    have G16 := Lib.hid qG16
                                    clear qG3 qG4 qG5 qG7 qG9 qG11 qG14 qG16
                                    refine wpAnyH_ready (rs := [0]) (by kernel_rfl) (by simp) ?_
                                    refine' (AllReadyH.cons ?hoc0h (fun K hK => ?stc0h) AllReadyH.nil)
                                    case hoc0h => (simp only [List.getElem?_toArray, List.getElem?_cons_zero]; rfl)
                                    go_simp
                                    refine (alive23 Whs).mono ?_
                                    rintro e Whx0 ⟨rfl, hb⟩
                                    have G3 := Lib.hid ((hb.block _ (blk_lt G3.out)).trans G3.out)
                                    have G4 := Lib.hid ((hb.block _ (blk_lt G4.out)).trans G4.out)
                                    have G5 := Lib.hid ((hb.block _ (blk_lt G5.out)).trans G5.out)
                                    have G7 := Lib.hid ((hb.block _ (blk_lt G7.out)).trans G7.out)
                                    have G9 := Lib.hid ((hb.block _ (blk_lt G9.out)).trans G9.out)
                                    have G11 := Lib.hid ((hb.block _ (blk_lt G11.out)).trans G11.out)
                                    have G14 := Lib.hid ((hb.block _ (blk_lt G14.out)).trans G14.out)
                                    have G16 := Lib.hid ((hb.block _ (blk_lt G16.out)).trans G16.out)
                                    go_wp2_with fail
                                    refine hK.out _ _ (⟨hS.1.trans (hb.mono hS.1.size), (hb.block _ (blk_lt hS.2.1)).trans hS.2.1, (hb.block _ (blk_lt hS.2.2)).trans hS.2.2⟩) (fun hHeld => ?_)
                                    clear hK K
                                    try simp only [Act.put, List.setIfInBounds_toArray, List.set_cons_succ, List.set_cons_zero]
                                    clear hS
                                    have hS := hHeld
                                    clear hHeld
                                    clear hb
                                    refine' wpAnyH_take (i := 1) ?h1x1hx0 ?hsx1hx0 ?hfx1hx0 ?hrx1hx0 ?hQx1hx0 (Or.inl ⟨?hwx1hx0, ?hyx1hx0⟩) hS ?restx1hx0
                                    case h1x1hx0 => (simp only [List.getElem?_toArray, List.getElem?_cons_succ, List.getElem?_cons_zero]; rfl)
                                    case hsx1hx0 => kernel_rfl
                                    case hfx1hx0 => kernel_rfl
                                    case hrx1hx0 => kernel_rfl
                                    case hQx1hx0 => exact fun _ _ _ h => h
                                    case hwx1hx0 => rfl
                                    case hyx1hx0 =>
                                      intro W hW
                                      go_simp
                                      try with_reducible rfl
                                    simp only [Act.put, List.setIfInBounds_toArray, List.set_cons_succ, List.set_cons_zero]
                                    refine' wpAnyH_take (i := 2) ?h1x2hx0 ?hsx2hx0 ?hfx2hx0 ?hrx2hx0 ?hQx2hx0 (Or.inl ⟨?hwx2hx0, ?hyx2hx0⟩) hS ?restx2hx0
                                    case h1x2hx0 => (simp only [List.getElem?_toArray, List.getElem?_cons_succ, List.getElem?_cons_zero]; rfl)
                                    case hsx2hx0 => kernel_rfl
                                    case hfx2hx0 => kernel_rfl
                                    case hrx2hx0 => kernel_rfl
                                    case hQx2hx0 => exact fun _ _ _ h => h
                                    case hwx2hx0 => rfl
                                    case hyx2hx0 =>
                                      intro W hW
                                      go_simp
                                      try with_reducible rfl
                                    simp only [Act.put, List.setIfInBounds_toArray, List.set_cons_succ, List.set_cons_zero]
                                    refine' wpAnyH_take (i := 3) ?h1x3hx0 ?hsx3hx0 ?hfx3hx0 ?hrx3hx0 ?hQx3hx0 (Or.inl ⟨?hwx3hx0, ?hyx3hx0⟩) hS ?restx3hx0
                                    case h1x3hx0 => (simp only [List.getElem?_toArray, List.getElem?_cons_succ, List.getElem?_cons_zero]; rfl)
                                    case hsx3hx0 => kernel_rfl
                                    case hfx3hx0 => kernel_rfl
                                    case hrx3hx0 => kernel_rfl
                                    case hQx3hx0 => exact fun _ _ _ h => h
                                    case hwx3hx0 => rfl
                                    case hyx3hx0 =>
                                      intro W hW
                                      go_simp
                                      try with_reducible rfl
                                    simp only [Act.put, List.setIfInBounds_toArray, List.set_cons_succ, List.set_cons_zero]
                                    refine' wpAnyH_take (i := 4) ?h1x4hx0 ?hsx4hx0 ?hfx4hx0 ?hrx4hx0 ?hQx4hx0 (Or.inl ⟨?hwx4hx0, ?hyx4hx0⟩) hS ?restx4hx0
                                    case h1x4hx0 => (simp only [List.getElem?_toArray, List.getElem?_cons_succ, List.getElem?_cons_zero]; rfl)
                                    case hsx4hx0 => kernel_rfl
                                    case hfx4hx0 => kernel_rfl
                                    case hrx4hx0 => kernel_rfl
                                    case hQx4hx0 => exact fun _ _ _ h => h
                                    case hwx4hx0 => rfl
                                    case hyx4hx0 =>
                                      intro W hW
                                      go_simp
                                      try with_reducible rfl
                                    simp only [Act.put, List.setIfInBounds_toArray, List.set_cons_succ, List.set_cons_zero]
                                    refine' wpAnyH_take (i := 5) ?h1x5hx0 ?hsx5hx0 ?hfx5hx0 ?hrx5hx0 ?hQx5hx0 (Or.inr ⟨?hwx5hx0, rfl⟩) hS ?restx5hx0
                                    case h1x5hx0 => (simp only [List.getElem?_toArray, List.getElem?_cons_succ, List.getElem?_cons_zero]; rfl)
                                    case hsx5hx0 => kernel_rfl
                                    case hfx5hx0 => kernel_rfl
                                    case hrx5hx0 => kernel_rfl
                                    case hQx5hx0 => exact fun _ _ _ h => h
                                    case hwx5hx0 => rfl
                                    simp only [Act.put, List.setIfInBounds_toArray, List.set_cons_succ, List.set_cons_zero]
                                    refine' wpAnyH_take (i := 8) ?h1x8hx0 ?hsx8hx0 ?hfx8hx0 ?hrx8hx0 ?hQx8hx0 (Or.inr ⟨?hwx8hx0, rfl⟩) hS ?restx8hx0
                                    case h1x8hx0 => (simp only [List.getElem?_toArray, List.getElem?_cons_succ, List.getElem?_cons_zero]; rfl)
                                    case hsx8hx0 => kernel_rfl
                                    case hfx8hx0 => kernel_rfl
                                    case hrx8hx0 => kernel_rfl
                                    case hQx8hx0 => exact fun _ _ _ h => h
                                    case hwx8hx0 => rfl
                                    simp only [Act.put, List.setIfInBounds_toArray, List.set_cons_succ, List.set_cons_zero]
                                    refine' wpAnyH_take (i := 6) ?h1x6hx0 ?hsx6hx0 ?hfx6hx0 ?hrx6hx0 ?hQx6hx0 (Or.inr ⟨?hwx6hx0, rfl⟩) hS ?restx6hx0
                                    case h1x6hx0 => (simp only [List.getElem?_toArray, List.getElem?_cons_succ, List.getElem?_cons_zero]; rfl)
                                    case hsx6hx0 => kernel_rfl
                                    case hfx6hx0 => kernel_rfl
                                    case hrx6hx0 => kernel_rfl
                                    case hQx6hx0 => exact fun _ _ _ h => h
                                    case hwx6hx0 => rfl
                                    simp only [Act.put, List.setIfInBounds_toArray, List.set_cons_succ, List.set_cons_zero]
                                    refine' wpAnyH_take (i := 9) ?h1x9hx0 ?hsx9hx0 ?hfx9hx0 ?hrx9hx0 ?hQx9hx0 (Or.inr ⟨?hwx9hx0, rfl⟩) hS ?restx9hx0
                                    case h1x9hx0 => (simp only [List.getElem?_toArray, List.getElem?_cons_succ, List.getElem?_cons_zero]; rfl)
                                    case hsx9hx0 => kernel_rfl
                                    case hfx9hx0 => kernel_rfl
                                    case hrx9hx0 => kernel_rfl
                                    case hQx9hx0 => exact fun _ _ _ h => h
                                    case hwx9hx0 => rfl
                                    simp only [Act.put, List.setIfInBounds_toArray, List.set_cons_succ, List.set_cons_zero]
                                    refine' wpAnyH_take (i := 7) ?h1x7hx0 ?hsx7hx0 ?hfx7hx0 ?hrx7hx0 ?hQx7hx0 (Or.inr ⟨?hwx7hx0, rfl⟩) hS ?restx7hx0
                                    case h1x7hx0 => (simp only [List.getElem?_toArray, List.getElem?_cons_succ, List.getElem?_cons_zero]; rfl)
                                    case hsx7hx0 => kernel_rfl
                                    case hfx7hx0 => kernel_rfl
                                    case hrx7hx0 => kernel_rfl
                                    case hQx7hx0 => exact fun _ _ _ h => h
                                    case hwx7hx0 => rfl
                                    simp only [Act.put, List.setIfInBounds_toArray, List.set_cons_succ, List.set_cons_zero]
                                    refine' wpAnyH_take (i := 10) ?h1x10hx0 ?hsx10hx0 ?hfx10hx0 ?hrx10hx0 ?hQx10hx0 (Or.inr ⟨?hwx10hx0, rfl⟩) hS ?restx10hx0
                                    case h1x10hx0 => (simp only [List.getElem?_toArray, List.getElem?_cons_succ, List.getElem?_cons_zero]; rfl)
                                    case hsx10hx0 => kernel_rfl
                                    case hfx10hx0 => kernel_rfl
                                    case hrx10hx0 => kernel_rfl
                                    case hQx10hx0 => exact fun _ _ _ h => h
                                    case hwx10hx0 => rfl
                                    simp only [Act.put, List.setIfInBounds_toArray, List.set_cons_succ, List.set_cons_zero]
                                    refine' wpAnyH_take (i := 11) ?h1x11hx0 ?hsx11hx0 ?hfx11hx0 ?hrx11hx0 ?hQx11hx0 (Or.inr ⟨?hwx11hx0, rfl⟩) hS ?restx11hx0
                                    case h1x11hx0 => (simp only [List.getElem?_toArray, List.getElem?_cons_succ, List.getElem?_cons_zero]; rfl)
                                    case hsx11hx0 => kernel_rfl
                                    case hfx11hx0 => kernel_rfl
                                    case hrx11hx0 => kernel_rfl
                                    case hQx11hx0 => exact fun _ _ _ h => h
                                    case hwx11hx0 => rfl
                                    simp only [Act.put, List.setIfInBounds_toArray, List.set_cons_succ, List.set_cons_zero]
                                    refine' wpAnyH_take (i := 12) ?h1x12hx0 ?hsx12hx0 ?hfx12hx0 ?hrx12hx0 ?hQx12hx0 (Or.inr ⟨?hwx12hx0, rfl⟩) hS ?restx12hx0
                                    case h1x12hx0 => (simp only [List.getElem?_toArray, List.getElem?_cons_succ, List.getElem?_cons_zero]; rfl)
                                    case hsx12hx0 => kernel_rfl
                                    case hfx12hx0 => kernel_rfl
                                    case hrx12hx0 => kernel_rfl
                                    case hQx12hx0 => exact fun _ _ _ h => h
                                    case hwx12hx0 => rfl
                                    simp only [Act.put, List.setIfInBounds_toArray, List.set_cons_succ, List.set_cons_zero]
                                    refine' wpAnyH_take (i := 15) ?h1x15hx0 ?hsx15hx0 ?hfx15hx0 ?hrx15hx0 ?hQx15hx0 (Or.inr ⟨?hwx15hx0, rfl⟩) hS ?restx15hx0
                                    case h1x15hx0 => (simp only [List.getElem?_toArray, List.getElem?_cons_succ, List.getElem?_cons_zero]; rfl)
                                    case hsx15hx0 => kernel_rfl
                                    case hfx15hx0 => kernel_rfl
                                    case hrx15hx0 => kernel_rfl
                                    case hQx15hx0 => exact fun _ _ _ h => h
                                    case hwx15hx0 => rfl
                                    simp only [Act.put, List.setIfInBounds_toArray, List.set_cons_succ, List.set_cons_zero]
                                    refine' wpAnyH_take (i := 13) ?h1x13hx0 ?hsx13hx0 ?hfx13hx0 ?hrx13hx0 ?hQx13hx0 (Or.inr ⟨?hwx13hx0, rfl⟩) hS ?restx13hx0
                                    case h1x13hx0 => (simp only [List.getElem?_toArray, List.getElem?_cons_succ, List.getElem?_cons_zero]; rfl)
                                    case hsx13hx0 => kernel_rfl
                                    case hfx13hx0 => kernel_rfl
                                    case hrx13hx0 => kernel_rfl
                                    case hQx13hx0 => exact fun _ _ _ h => h
                                    case hwx13hx0 => rfl
                                    simp only [Act.put, List.setIfInBounds_toArray, List.set_cons_succ, List.set_cons_zero]
                                    refine' wpAnyH_take (i := 16) ?h1x16hx0 ?hsx16hx0 ?hfx16hx0 ?hrx16hx0 ?hQx16hx0 (Or.inr ⟨?hwx16hx0, rfl⟩) hS ?restx16hx0
                                    case h1x16hx0 => (simp only [List.getElem?_toArray, List.getElem?_cons_succ, List.getElem?_cons_zero]; rfl)
                                    case hsx16hx0 => kernel_rfl
                                    case hfx16hx0 => kernel_rfl
                                    case hrx16hx0 => kernel_rfl
                                    case hQx16hx0 => exact fun _ _ _ h => h
                                    case hwx16hx0 => rfl
                                    simp only [Act.put, List.setIfInBounds_toArray, List.set_cons_succ, List.set_cons_zero]
                                    refine' wpAnyH_take (i := 14) ?h1x14hx0 ?hsx14hx0 ?hfx14hx0 ?hrx14hx0 ?hQx14hx0 (Or.inr ⟨?hwx14hx0, rfl⟩) hS ?restx14hx0
                                    case h1x14hx0 => (simp only [List.getElem?_toArray, List.getElem?_cons_succ, List.getElem?_cons_zero]; rfl)
                                    case hsx14hx0 => kernel_rfl
                                    case hfx14hx0 => kernel_rfl
                                    case hrx14hx0 => kernel_rfl
                                    case hQx14hx0 => exact fun _ _ _ h => h
                                    case hwx14hx0 => rfl
                                    simp only [Act.put, List.setIfInBounds_toArray, List.set_cons_succ, List.set_cons_zero]
                                    refine' wpAnyH_take (i := 17) ?h1x17hx0 ?hsx17hx0 ?hfx17hx0 ?hrx17hx0 ?hQx17hx0 (Or.inr ⟨?hwx17hx0, rfl⟩) hS ?restx17hx0
                                    case h1x17hx0 => (simp only [List.getElem?_toArray, List.getElem?_cons_succ, List.getElem?_cons_zero]; rfl)
                                    case hsx17hx0 => kernel_rfl
                                    case hfx17hx0 => kernel_rfl
                                    case hrx17hx0 => kernel_rfl
                                    case hQx17hx0 => exact fun _ _ _ h => h
                                    case hwx17hx0 => rfl
                                    simp only [Act.put, List.setIfInBounds_toArray, List.set_cons_succ, List.set_cons_zero]
                                    refine' wpAnyH_take (i := 18) ?h1x18hx0 ?hsx18hx0 ?hfx18hx0 ?hrx18hx0 ?hQx18hx0 (Or.inr ⟨?hwx18hx0, rfl⟩) hS ?restx18hx0
                                    case h1x18hx0 => (simp only [List.getElem?_toArray, List.getElem?_cons_succ, List.getElem?_cons_zero]; rfl)
                                    case hsx18hx0 => kernel_rfl
                                    case hfx18hx0 => kernel_rfl
                                    case hrx18hx0 => kernel_rfl
                                    case hQx18hx0 => exact fun _ _ _ h => h
                                    case hwx18hx0 => rfl
                                    simp only [Act.put, List.setIfInBounds_toArray, List.set_cons_succ, List.set_cons_zero]
                                    refine' wpAnyH_take (i := 19) ?h1x19hx0 ?hsx19hx0 ?hfx19hx0 ?hrx19hx0 ?hQx19hx0 (Or.inr ⟨?hwx19hx0, rfl⟩) hS ?restx19hx0
                                    case h1x19hx0 => (simp only [List.getElem?_toArray, List.getElem?_cons_succ, List.getElem?_cons_zero]; rfl)
                                    case hsx19hx0 => kernel_rfl
                                    case hfx19hx0 => kernel_rfl
                                    case hrx19hx0 => kernel_rfl
                                    case hQx19hx0 => exact fun _ _ _ h => h
                                    case hwx19hx0 => rfl
                                    simp only [Act.put, List.setIfInBounds_toArray, List.set_cons_succ, List.set_cons_zero]
                                    refine' wpAnyH_take (i := 20) ?h1x20hx0 ?hsx20hx0 ?hfx20hx0 ?hrx20hx0 ?hQx20hx0 (Or.inr ⟨?hwx20hx0, rfl⟩) hS ?restx20hx0
                                    case h1x20hx0 => (simp only [List.getElem?_toArray, List.getElem?_cons_succ, List.getElem?_cons_zero]; rfl)
                                    case hsx20hx0 => kernel_rfl
                                    case hfx20hx0 => kernel_rfl
                                    case hrx20hx0 => kernel_rfl
                                    case hQx20hx0 => exact fun _ _ _ h => h
                                    case hwx20hx0 => rfl
                                    simp only [Act.put, List.setIfInBounds_toArray, List.set_cons_succ, List.set_cons_zero]
                                    refine' wpAnyH_take (i := 23) ?h1x23hx0 ?hsx23hx0 ?hfx23hx0 ?hrx23hx0 ?hQx23hx0 (Or.inr ⟨?hwx23hx0, rfl⟩) hS ?restx23hx0
                                    case h1x23hx0 => (simp only [List.getElem?_toArray, List.getElem?_cons_succ, List.getElem?_cons_zero]; rfl)
                                    case hsx23hx0 => kernel_rfl
                                    case hfx23hx0 => kernel_rfl
                                    case hrx23hx0 => kernel_rfl
                                    case hQx23hx0 => exact fun _ _ _ h => h
                                    case hwx23hx0 => rfl
                                    simp only [Act.put, List.setIfInBounds_toArray, List.set_cons_succ, List.set_cons_zero]
                                    refine' wpAnyH_take (i := 21) ?h1x21hx0 ?hsx21hx0 ?hfx21hx0 ?hrx21hx0 ?hQx21hx0 (Or.inr ⟨?hwx21hx0, rfl⟩) hS ?restx21hx0
                                    case h1x21hx0 => (simp only [List.getElem?_toArray, List.getElem?_cons_succ, List.getElem?_cons_zero]; rfl)
                                    case hsx21hx0 => kernel_rfl
                                    case hfx21hx0 => kernel_rfl
                                    case hrx21hx0 => kernel_rfl
                                    case hQx21hx0 => exact fun _ _ _ h => h
                                    case hwx21hx0 => rfl
                                    simp only [Act.put, List.setIfInBounds_toArray, List.set_cons_succ, List.set_cons_zero]
                                    refine' wpAnyH_take (i := 24) ?h1x24hx0 ?hsx24hx0 ?hfx24hx0 ?hrx24hx0 ?hQx24hx0 (Or.inr ⟨?hwx24hx0, rfl⟩) hS ?restx24hx0
                                    case h1x24hx0 => (simp only [List.getElem?_toArray, List.getElem?_cons_succ, List.getElem?_cons_zero]; rfl)
                                    case hsx24hx0 => kernel_rfl
                                    case hfx24hx0 => kernel_rfl
                                    case hrx24hx0 => kernel_rfl
                                    case hQx24hx0 => exact fun _ _ _ h => h
                                    case hwx24hx0 => rfl
                                    simp only [Act.put, List.setIfInBounds_toArray, List.set_cons_succ, List.set_cons_zero]
                                    refine' wpAnyH_take (i := 22) ?h1x22hx0 ?hsx22hx0 ?hfx22hx0 ?hrx22hx0 ?hQx22hx0 (Or.inr ⟨?hwx22hx0, rfl⟩) hS ?restx22hx0
                                    case h1x22hx0 => (simp only [List.getElem?_toArray, List.getElem?_cons_succ, List.getElem?_cons_zero]; rfl)
                                    case hsx22hx0 => kernel_rfl
                                    case hfx22hx0 => kernel_rfl
                                    case hrx22hx0 => kernel_rfl
                                    case hQx22hx0 => exact fun _ _ _ h => h
                                    case hwx22hx0 => rfl
                                    simp only [Act.put, List.setIfInBounds_toArray, List.set_cons_succ, List.set_cons_zero]
                                    refine' wpAnyH_take (i := 25) ?h1x25hx0 ?hsx25hx0 ?hfx25hx0 ?hrx25hx0 ?hQx25hx0 (Or.inr ⟨?hwx25hx0, rfl⟩) hS ?restx25hx0
                                    case h1x25hx0 => (simp only [List.getElem?_toArray, List.getElem?_cons_succ, List.getElem?_cons_zero]; rfl)
                                    case hsx25hx0 => kernel_rfl
                                    case hfx25hx0 => kernel_rfl
                                    case hrx25hx0 => kernel_rfl
                                    case hQx25hx0 => exact fun _ _ _ h => h
                                    case hwx25hx0 => rfl
                                    simp only [Act.put, List.setIfInBounds_toArray, List.set_cons_succ, List.set_cons_zero]
                                    refine' wpAnyH_take (i := 26) ?h1x26hx0 ?hsx26hx0 ?hfx26hx0 ?hrx26hx0 ?hQx26hx0 (Or.inr ⟨?hwx26hx0, rfl⟩) hS ?restx26hx0
                                    case h1x26hx0 => (simp only [List.getElem?_toArray, List.getElem?_cons_succ, List.getElem?_cons_zero]; rfl)
                                    case hsx26hx0 => kernel_rfl
                                    case hfx26hx0 => kernel_rfl
                                    case hrx26hx0 => kernel_rfl
                                    case hQx26hx0 => exact fun _ _ _ h => h
                                    case hwx26hx0 => rfl
                                    simp only [Act.put, List.setIfInBounds_toArray, List.set_cons_succ, List.set_cons_zero]
                                    refine' wpAnyH_take (i := 27) ?h1x27hx0 ?hsx27hx0 ?hfx27hx0 ?hrx27hx0 ?hQx27hx0 (Or.inr ⟨?hwx27hx0, rfl⟩) hS ?restx27hx0
                                    case h1x27hx0 => (simp only [List.getElem?_toArray, List.getElem?_cons_succ, List.getElem?_cons_zero]; rfl)
                                    case hsx27hx0 => kernel_rfl
                                    case hfx27hx0 => kernel_rfl
                                    case hrx27hx0 => kernel_rfl
                                    case hQx27hx0 => exact fun _ _ _ h => h
                                    case hwx27hx0 => rfl
                                    simp only [Act.put, List.setIfInBounds_toArray, List.set_cons_succ, List.set_cons_zero]
                                    refine' wpAnyH_take (i := 28) ?h1x28hx0 ?hsx28hx0 ?hfx28hx0 ?hrx28hx0 ?hQx28hx0 (Or.inr ⟨?hwx28hx0, rfl⟩) hS ?restx28hx0
                                    case h1x28hx0 => (simp only [List.getElem?_toArray, List.getElem?_cons_succ, List.getElem?_cons_zero]; rfl)
                                    case hsx28hx0 => kernel_rfl
                                    case hfx28hx0 => kernel_rfl
                                    case hrx28hx0 => kernel_rfl
                                    case hQx28hx0 => exact fun _ _ _ h => h
                                    case hwx28hx0 => rfl
                                    simp only [Act.put, List.setIfInBounds_toArray, List.set_cons_succ, List.set_cons_zero]
                                    refine' wpAnyH_take (i := 30) ?h1x30hx0 ?hsx30hx0 ?hfx30hx0 ?hrx30hx0 ?hQx30hx0 (Or.inr ⟨?hwx30hx0, rfl⟩) hS ?restx30hx0
                                    case h1x30hx0 => (simp only [List.getElem?_toArray, List.getElem?_cons_succ, List.getElem?_cons_zero]; rfl)
                                    case hsx30hx0 => kernel_rfl
                                    case hfx30hx0 => kernel_rfl
                                    case hrx30hx0 => kernel_rfl
                                    case hQx30hx0 => exact fun _ _ _ h => h
                                    case hwx30hx0 => rfl
                                    simp only [Act.put, List.setIfInBounds_toArray, List.set_cons_succ, List.set_cons_zero]
                                    refine' wpAnyH_take (i := 29) ?h1x29hx0 ?hsx29hx0 ?hfx29hx0 ?hrx29hx0 ?hQx29hx0 (Or.inr ⟨?hwx29hx0, rfl⟩) hS ?restx29hx0
                                    case h1x29hx0 => (simp only [List.getElem?_toArray, List.getElem?_cons_succ, List.getElem?_cons_zero]; rfl)
                                    case hsx29hx0 => kernel_rfl
                                    case hfx29hx0 => kernel_rfl
                                    case hrx29hx0 => kernel_rfl
                                    case hQx29hx0 => exact fun _ _ _ h => h
                                    case hwx29hx0 => rfl
                                    simp only [Act.put, List.setIfInBounds_toArray, List.set_cons_succ, List.set_cons_zero]
                                    refine' wpAnyH_take (i := 31) ?h1x31hx0 ?hsx31hx0 ?hfx31hx0 ?hrx31hx0 ?hQx31hx0 (Or.inr ⟨?hwx31hx0, rfl⟩) hS ?restx31hx0
                                    case h1x31hx0 => (simp only [List.getElem?_toArray, List.getElem?_cons_succ, List.getElem?_cons_zero]; rfl)
                                    case hsx31hx0 => kernel_rfl
                                    case hfx31hx0 => kernel_rfl
                                    case hrx31hx0 => kernel_rfl
                                    case hQx31hx0 => exact fun _ _ _ h => h
                                    case hwx31hx0 => rfl
                                    simp only [Act.put, List.setIfInBounds_toArray, List.set_cons_succ, List.set_cons_zero]
                                    refine' wpAnyH_take (i := 32) ?h1x32hx0 ?hsx32hx0 ?hfx32hx0 ?hrx32hx0 ?hQx32hx0 (Or.inr ⟨?hwx32hx0, rfl⟩) hS ?restx32hx0
                                    case h1x32hx0 => (simp only [List.getElem?_toArray, List.getElem?_cons_succ, List.getElem?_cons_zero]; rfl)
                                    case hsx32hx0 => kernel_rfl
                                    case hfx32hx0 => kernel_rfl
                                    case hrx32hx0 => kernel_rfl
                                    case hQx32hx0 => exact fun _ _ _ h => h
                                    case hwx32hx0 => rfl
                                    simp only [Act.put, List.setIfInBounds_toArray, List.set_cons_succ, List.set_cons_zero]
                                    refine' wpAnyH_take (i := 33) ?h1x33hx0 ?hsx33hx0 ?hfx33hx0 ?hrx33hx0 ?hQx33hx0 (Or.inr ⟨?hwx33hx0, rfl⟩) hS ?restx33hx0
                                    case h1x33hx0 => (simp only [List.getElem?_toArray, List.getElem?_cons_succ, List.getElem?_cons_zero]; rfl)
                                    case hsx33hx0 => kernel_rfl
                                    case hfx33hx0 => kernel_rfl
                                    case hrx33hx0 => kernel_rfl
                                    case hQx33hx0 => exact fun _ _ _ h => h
                                    case hwx33hx0 => rfl
                                    simp only [Act.put, List.setIfInBounds_toArray, List.set_cons_succ, List.set_cons_zero]
                                    refine' wpAnyH_take (i := 34) ?h1x34hx0 ?hsx34hx0 ?hfx34hx0 ?hrx34hx0 ?hQx34hx0 (Or.inr ⟨?hwx34hx0, rfl⟩) hS ?restx34hx0
                                    case h1x34hx0 => (simp only [List.getElem?_toArray, List.getElem?_cons_succ, List.getElem?_cons_zero]; rfl)
                                    case hsx34hx0 => kernel_rfl
                                    case hfx34hx0 => kernel_rfl
                                    case hrx34hx0 => kernel_rfl
                                    case hQx34hx0 => exact fun _ _ _ h => h
                                    case hwx34hx0 => rfl
                                    simp only [Act.put, List.setIfInBounds_toArray, List.set_cons_succ, List.set_cons_zero]
                                    refine' wpAnyH_take (i := 35) ?h1x35hx0 ?hsx35hx0 ?hfx35hx0 ?hrx35hx0 ?hQx35hx0 (Or.inl ⟨?hwx35hx0, ?hyx35hx0⟩) hS ?restx35hx0
                                    case h1x35hx0 => (simp only [List.getElem?_toArray, List.getElem?_cons_succ, List.getElem?_cons_zero]; rfl)
                                    case hsx35hx0 => kernel_rfl
                                    case hfx35hx0 => kernel_rfl
                                    case hrx35hx0 => kernel_rfl
                                    case hQx35hx0 => exact fun _ _ _ h => h
                                    case hwx35hx0 => rfl
                                    case hyx35hx0 =>
                                      intro W hW
                                      go_simp
                                      try with_reducible rfl
                                    simp only [Act.put, List.setIfInBounds_toArray, List.set_cons_succ, List.set_cons_zero]
                                    refine' wpAnyH_take (i := 36) ?h1x36hx0 ?hsx36hx0 ?hfx36hx0 ?hrx36hx0 ?hQx36hx0 (Or.inl ⟨?hwx36hx0, ?hyx36hx0⟩) hS ?restx36hx0
                                    case h1x36hx0 => (simp only [List.getElem?_toArray, List.getElem?_cons_succ, List.getElem?_cons_zero]; rfl)
                                    case hsx36hx0 => kernel_rfl
                                    case hfx36hx0 => kernel_rfl
                                    case hrx36hx0 => kernel_rfl
                                    case hQx36hx0 => exact fun _ _ _ h => h
                                    case hwx36hx0 => rfl
                                    case hyx36hx0 =>
                                      intro W hW
                                      go_simp
                                      try with_reducible rfl
                                    simp only [Act.put, List.setIfInBounds_toArray, List.set_cons_succ, List.set_cons_zero]
                                    refine' wpAnyH_take (i := 37) ?h1x37hx0 ?hsx37hx0 ?hfx37hx0 ?hrx37hx0 ?hQx37hx0 (Or.inl ⟨?hwx37hx0, ?hyx37hx0⟩) hS ?restx37hx0
                                    case h1x37hx0 => (simp only [List.getElem?_toArray, List.getElem?_cons_succ, List.getElem?_cons_zero]; rfl)
                                    case hsx37hx0 => kernel_rfl
                                    case hfx37hx0 => kernel_rfl
                                    case hrx37hx0 => kernel_rfl
                                    case hQx37hx0 => exact fun _ _ _ h => h
                                    case hwx37hx0 => rfl
                                    case hyx37hx0 =>
                                      intro W hW
                                      go_simp
                                      try with_reducible rfl
                                    simp only [Act.put, List.setIfInBounds_toArray, List.set_cons_succ, List.set_cons_zero]
                                    refine wpAnyH_done (by kernel_rfl) ?_ _
                                    go_wp2_with fail
                                    go_ret
                                    exact ⟨rfl, hS.1⟩
end Go.Proofs.Ytbhkhkiidaemcaa.entryTenants
