/-
  Contracts of the functions that the statements of package aes go through: the words of a key. Condition: the numbers are bytes.
-/
import Derived.Test.YtpkeofioobmmoaaGreatDoorAeAesF
namespace Go.Proofs.YtpkeofioobmmoaaGreatDoor.ae
open Go.RowKit
theorem zero30 : ∀ w, (zeroValue 82).run Tryz.prog w = .ok (.agg (ncells (zeros 240))) w := fun _ => by kernel_rfl
theorem info30 : (Tryz.prog.info? 82).map (·.size) = some 240 := by kernel_rfl
theorem i30 {b : List Nat} (h : b.length = 240) : (Tryz.prog.info? 82).map (·.size) = some (ncells b).size := by rw [info30, nsize, h]
theorem z30 {b : List Nat} (h : b.length = 240) : (ncells (zeros 240)).size = (ncells b).size := by rw [nsize, nsize, zeros_len, h]
theorem und23 : Tryz.prog.underlying 23 = some (.array (Tryz.prog.arrayLen 23) (Tryz.prog.elem 23)) := by kernel_rfl
theorem len23 : Tryz.prog.arrayLen 23 = 32 := by kernel_rfl
theorem size23 (W : World) : (sizeOf (Tryz.prog.elem 23)).run Tryz.prog W = .ok 1 W := by kernel_rfl
/-- 'a[n:]' of a key. -/
theorem arr32_from (g n : Nat) (z : Int) (hz : z = n) (hn : n < 32) (W : World) : (Instr.sliceAt 23 (.pointer (some ⟨g, 0, none⟩)) (some (.int .i64 z)) none none).run Tryz.prog W = .ok (.slice (some ⟨g, n, none⟩) (32 - n) (32 - n)) W := by
  subst hz
  rw [run_sliceAt_array_l W 23 ⟨g, 0, none⟩ und23 .i64 n (by omega) (by rw [len23]; omega), size23]
  simp only [Result.andThen, slicedAt, len23, Int.toNat_natCast, Nat.mul_one, addr_add]
  rw [if_neg (by omega), Nat.zero_add]
theorem blk_lt {w : World} {g : Nat} {o : Obj} (h : w.heap[g]? = some o) : g < w.heap.size := (Array.getElem?_eq_some_iff.1 h).1
theorem run_storeVar_at {P : Program} (w : World) (g o : Nat) (t ty : TypeId) (cur cells : Array Value) (hg : w.heap[g]? = some (.cells cur t (0, 0))) (hi : (P.info? ty).map (·.size) = some cells.size)
    (hfit : o + cells.size ≤ cur.size) (h1 : ∀ v ∈ cells.toList, v.oneCell' = true) :
    (storeVar ty ⟨g, o, none⟩ (.agg cells)).run P w = .ok () (w.setRow g (cur.toList.take (o + 0) ++ cells.toList ++ cur.toList.drop (o + 0 + cells.toList.length)).toArray) := by
  have := run_storeCells_at P g o t cells.toList 0 cur w hg (by simpa using hfit) h1
  cases hq : P.info? ty with
  | none => simp [hq] at hi
  | some i =>
    have hs : cells.size = i.size := by simp [hq] at hi; omega
    simp only [Nat.add_zero] at this ⊢
    simp [storeVar, sizeOf, typeInfo, hq, Value.cells, hs, this]
/-- A row that is stored into the middle of a block: what is there then is given. -/
theorem wp_store_at {P : Program} {o : Oper} {a : Act} {w : World} {K : Act → World → Prop} {Q : Exit → Act → World → Prop} (ty : TypeId) (x y : Operand) (ho : o.op = .store ty x y)
    (g off : Nat) (cells : Array Value) (hx : a.eval x = .pointer (some ⟨g, off, none⟩)) (hy : a.eval y = .agg cells)
    (t : TypeId) (cur new : Array Value) (hg : w.heap[g]? = some (.cells cur t (0, 0))) (hi : (P.info? ty).map (·.size) = some cells.size)
    (hfit : off + cells.size ≤ cur.size) (h1 : ∀ v ∈ cells.toList, v.oneCell' = true) (hn : (cur.toList.take off ++ cells.toList ++ cur.toList.drop (off + cells.size)).toArray = new)
    (h : K (a.put o.dst undef) (w.setRow g new)) : o.wp P a w K Q := by
  unfold Oper.wp execOp
  have e := run_storeVar_at w g off t ty cur cells hg hi hfit h1
  rw [Array.length_toList, Nat.add_zero, hn] at e
  simp only [ho, hx, hy, Instr.storeAt, Instr.sureAddr, Sem.run_bind, Sem.run_pure, Result.andThen_ok, e]
  exact h
theorem wpList_store_at {P : Program} {ops : Array Oper} {rest : List Oper} {o : Oper} {a : Act} {w : World} {Q : Exit → Act → World → Prop} (hgd : o.guard = none) (ty : TypeId) (x y : Operand) (ho : o.op = .store ty x y)
    (g off : Nat) (cells : Array Value) (hx : a.eval x = .pointer (some ⟨g, off, none⟩)) (hy : a.eval y = .agg cells)
    (t : TypeId) (cur new : Array Value) (hg : w.heap[g]? = some (.cells cur t (0, 0))) (hi : (P.info? ty).map (·.size) = some cells.size)
    (hfit : off + cells.size ≤ cur.size) (h1 : ∀ v ∈ cells.toList, v.oneCell' = true) (hn : (cur.toList.take off ++ cells.toList ++ cur.toList.drop (off + cells.size)).toArray = new)
    (h : wpList P ops Q rest (a.put o.dst undef) (w.setRow g new)) : wpList P ops Q (o :: rest) a w :=
  wpList_plain hgd fun _ hK => wp_store_at ty x y ho g off cells hx hy t cur new hg hi hfit h1 hn (hK _ _ h)
/-- A row that is loaded out of the middle of a block. -/
theorem wpList_load_at {P : Program} {ops : Array Oper} {rest : List Oper} {op : Oper} {a : Act} {w : World} {Q : Exit → Act → World → Prop} (hgd : op.guard = none) (ty : TypeId) (x : Operand) (ho : op.op = .load ty x)
    (b o : Nat) (hx : a.eval x = .pointer (some ⟨b, o, none⟩)) (cs : Array Value) (d : TypeDesc) (hc : w.rangeAt b o cs.toList)
    (hu : P.underlying ty = some d) (hd : d.isRow = true) (hi : (P.info? ty).map (·.size) = some cs.size)
    (h : wpList P ops Q rest (a.put op.dst (.agg cs)) w) : wpList P ops Q (op :: rest) a w :=
  wpList_load_mid hgd ty x ho b o hx cs.toList d hc hu hd (by rw [Array.length_toList]; exact hi) h
theorem ones (l : List Nat) : ∀ v ∈ (ncells l).toList, v.oneCell' = true := fun v hv => by
  obtain ⟨_, _, rfl⟩ := List.mem_map.1 (show v ∈ l.map (fun (n : Nat) => Value.int .u8 (n : Int)) from hv); rfl
theorem idx40 (P : List Nat) (hP : P.length = 4) (k : Nat) (hk : k < 4) (w : World) : (Instr.index 81 (.agg (ncells P)) (.int .i64 k)).run Tryz.prog w = .ok (.int .u8 (at_ P k : Nat)) w := by
  have hs : (ncells P).size = 4 := by rw [nsize, hP]
  simp [Instr.index, run_underlying Tryz.underlying81, asIntOf, part, hk, hs]
  simp [ncells, hP, hk, at_]
/-- A word's cells lie in the words. -/
theorem range4 {W : World} {g n m : Nat} {R : List Nat} {t : TypeId} (F : List Nat) (hg : W.heap[g]? = some (.cells (ncells R) t (0, 0))) (hR : R.length = n) (hm : 4 * m + 4 ≤ n) (h : ∀ k, k < 4 → at_ R (m * 4 + k) = at_ F (4 * m + k)) :
    W.rangeAt g (m * 4) (ncells (wrd F m)).toList := fun j v hv => by
  have hj : j < 4 := by
    rcases Nat.lt_or_ge j 4 with h4 | h4
    · exact h4
    · rw [List.getElem?_eq_none (by simp [ncells, wrd, tab]; omega)] at hv; cases hv
  rw [cell_at hg hR (show m * 4 + j < n by omega), h j hj, ← hv]
  simp [ncells, wrd, tab, hj]
theorem wo_at (F : List Nat) (n j : Nat) (h : j < 4 * n) (hj : j < 240) : at_ (wo F n) j = at_ F j := by rw [wo, tab_at _ _ _ hj, if_pos h]
theorem wi_low (F : List Nat) (m k j : Nat) (h : j < 4 * (m + 8)) (hj : j < 240) : at_ (wi F m k) j = at_ F j := by rw [wi, tab_at _ _ _ hj, if_pos (by omega)]
set_option maxRecDepth 100000 in
set_option maxHeartbeats 4000000 in
theorem wordsOf (key : List Nat) (hk : Bts 32 key) (g o : Nat) (w : World) (hc : ∀ j, j < 256 → w.cell? ⟨g, o + j, none⟩ = some (.int .u8 (at_ bxs j : Nat))) :
    Calls Tryz.prog 48 #[.agg (ncells key), .pointer (some ⟨g, o, none⟩)] w fun e w' => e = .returned (.agg (ncells (flat key))) ∧ Below w.heap.size w w' := by
  have zz := zero30
  obtain ⟨Z, hZ⟩ : ∃ Z, Z = ncells (zeros 240) := ⟨_, rfl⟩
  rw [← hZ] at zz
  obtain ⟨F, hF⟩ : ∃ F, F = flat key := ⟨_, rfl⟩
  have hFb : Bts 240 F := by rw [hF]; exact flat_bts hk
  have IR := Lib.hid (i30 hFb.1)
  have ZR : Hid (Z.size = (ncells F).size) := by show _ = _; rw [hZ]; exact z30 hFb.1
  have OR := Lib.hid (none_ F)
  have UZ : Hid (ncells (wo F 0) = Z) := by show _ = _; rw [hZ, wo_zero]
  have UA : Hid (wo F 60 = F) := wo_all hFb.1
  have HFB := Lib.hid hFb
  have HK := Lib.hid hk
  have HKEY : Hid (∀ n, n < 8 → ∀ ys : List Nat, (∀ k, k < 4 → at_ ys k = at_ key (4 * n + k)) → (tab 240 fun j => if j < n * 4 then at_ (wo F n) j else if j < n * 4 + 4 then at_ ys (j - n * 4) else at_ (wo F n) j) = wo F (n + 1)) := by rw [hF]; exact fun n hn ys hy => wo_key n hn ys hy
  have HNEXT : Hid (∀ m k, m + 8 < 60 → k < 4 → at_ F (4 * (m + 8) + k) = Nat.xor (at_ F (4 * m + k)) (at_ (addw (wrd F (m + 7)) (m + 8)) k)) := by rw [hF]; exact fun m k hm hk4 => flat_next hk m k hm hk4
  have HC := Lib.hid hc
  have LG : Hid (g < w.heap.size) := World.block_lt_of_cell? w _ (hc 0 (by omega))
  rw [← hF]
  clear hZ hF hFb hc hk
  go_enter Tryz.func48, Tryz.ntmps48
  go_wp2_with fail
  go_loopw [6, 7, 8, 9] (fun _ _ _ vi wr => ∃ i : Nat, i ≤ 60 ∧ vi = .int .i64 i ∧ wr.heap[w.heap.size]? = some (.cells (ncells key) 23 (0, 0)) ∧ wr.heap[w.heap.size + 1]? = some (.cells Z 82 (0, 0)) ∧ wr.heap[w.heap.size + 1 + 1]? = some (.cells (ncells (wo F i)) 82 (0, 0)) ∧ Below w.heap.size w wr) (fun _ _ _ vi _ => 60 - (intOf vi).toNat)
  case atStart =>
    refine ⟨0, by omega, rfl, ?_, ?_, ?_, (((Below.refl _ _).alloc (Nat.le_refl _) _).alloc (by simp) _).alloc (by simp; omega) _⟩
    · rw [Below.heap_alloc _ _ _ (by simp; omega), Below.heap_alloc _ _ _ (by simp)]; exact heap_alloc_new w _
    · rw [Below.heap_alloc _ _ _ (by simp)]; exact heap_alloc2_new w _ _
    · rw [UZ.out]
      have := heap_alloc_new ((w.alloc (.cells (ncells key) 23)).alloc (.cells Z 82)) (.cells Z 82)
      simpa using this
  case round =>
    obtain ⟨i, hi, rfl, hg0, hg1, hg2, hbel⟩ := hrel
    by_cases h8 : i < 8
    · have hi60 : (i : Int) < 60 := by omega
      have hkl : key.length = 32 := HK.out.1
      have hrun := run_copy_row Tryz.prog wr.drew 31 31 3 5 (w.heap.size + 1 + 1) (i * 4) 4 4 ⟨w.heap.size, 4 * i, none⟩ (32 - 4 * i) (32 - 4 * i) (ncells (wo F i)) 82 (((key.drop (4 * i)).take 4).map fun (n : Nat) => Value.int .u8 (n : Int)) Tryz.underlying31 info5s hg2
        (by rw [List.length_map, List.length_take, List.length_drop, hkl]; simp only [Nat.min_def]; split <;> split <;> omega)
        (fun j u hj => by
          have hj4 : j < 4 := by
            rcases Nat.lt_or_ge j 4 with h | h
            · exact h
            · rw [List.getElem?_eq_none (by simp; omega)] at hj; cases hj
          rw [addr_add]
          refine (cell_at (show wr.drew.heap[w.heap.size]? = _ from hg0) hkl (show 4 * i + j < 32 by omega)).trans ?_
          rw [← hj]
          have : 4 * i + j < key.length := by omega
          simp [hj4, at_, List.getD, this])
        (by rw [List.length_map, List.length_take, List.length_drop, nsize, wo_len]; omega) (fun z hz => by obtain ⟨_, _, rfl⟩ := List.mem_map.1 hz; rfl)
      have hl4 : (((key.drop (4 * i)).take 4).map fun (n : Nat) => Value.int .u8 (n : Int)).length = 4 := by rw [List.length_map, List.length_take, List.length_drop, hkl]; omega
      have hl4' : ((key.drop (4 * i)).take 4).length = 4 := by rw [List.length_take, List.length_drop, hkl]; omega
      rw [hl4, splice4 (wo F i) ((key.drop (4 * i)).take 4) 240 (i * 4) (wo_len F i) hl4' (by omega), HKEY.out i h8 _ (fun k hk4 => by simp [at_, List.getD, hk4])] at hrun
      have HRUN := Lib.hid hrun
      have s1 := arr32_from w.heap.size (4 * i) (4 * (i : Int)) (by omega) (by omega)
      have s2 := arr4_all (w.heap.size + 1 + 1) (i * 4)
      have e1 : IntKind.i64.wrap (4 * (i : Int)) = 4 * (i : Int) := IntWalk.i64_in _ (by omega)
      have hlt : (i : Int) < 8 := by omega
      have G0 := Lib.hid hg0
      have G1 := Lib.hid hg1
      have G2 := Lib.hid hg2
      have HB := Lib.hid hbel
      clear hg0 hg1 hg2 hbel hrun hl4 hl4' hkl
      go_wp2_with fail
      go_still_tail 6, (by kernel_rfl)
      change wpList _ _ _ _ _ wr.drew
      clear s1 s2 e1
      go_wp2_with (refine wpList_copy_run rfl (.tmp 16) (.tmp 19) rfl rfl rfl rfl HRUN.out ?_)
      go_roundw
      case rel =>
        refine ⟨i + 1, by omega, by go_num, ?_, ?_, ?_, (HB.out.trans (Below.refl _ _).drew).trans (below_row (B := w.heap.size) (g := w.heap.size + 1 + 1) _ _ (by omega))⟩
        · rw [setRow_other _ _ _ _ (by omega)]; exact G0.out
        · rw [setRow_other _ _ _ _ (by omega)]; exact G1.out
        · exact setRow_heap _ _ _ _ _ _ G2.out
      case measure => simp [intOf]; omega
    · by_cases hlt : i < 60
      · obtain ⟨n, hnn⟩ : ∃ n, n = i := ⟨_, rfl⟩
        subst hnn
        obtain ⟨m, hn⟩ : ∃ m, n = m + 8 := ⟨n - 8, by omega⟩
        obtain ⟨p, hp⟩ : ∃ p, p = m + 7 := ⟨_, rfl⟩
        have hi60 : (n : Int) < 60 := by omega
        have hi8 : ¬ (n : Int) < 8 := by omega
        have hm8 : (n : Int) - 8 = (m : Int) := by omega
        have hp7 : (n : Int) - 1 = (p : Int) := by omega
        have ml : (m : Int) < 60 := by omega
        have pl : (p : Int) < 60 := by omega
        have n0 : (0 : Int) ≤ n := by omega
        have p0 : (0 : Int) ≤ p := by omega
        have m0 : (0 : Int) ≤ m := by omega
        have RG1 : Hid (wr.rangeAt (w.heap.size + 1 + 1) (m * 4) (ncells (wrd F m)).toList) := range4 F hg2 (wo_len F n) (by omega) (fun k hk4 => by rw [wo_at _ _ _ (by omega) (by omega), Nat.mul_comm m 4])
        have hW0 : ((ncells (wo F n)).toList.take (n * 4) ++ (ncells (wrd F m)).toList ++ (ncells (wo F n)).toList.drop (n * 4 + (ncells (wrd F m)).size)).toArray = ncells (wi F m 0) := by
          rw [nsize, show (wrd F m).length = 4 from tab_len _ _]
          have := splice4 (wo F n) (wrd F m) 240 (n * 4) (wo_len F n) (tab_len _ _) (by omega)
          have e := wo_word F m
          rw [← hn] at e
          rw [e] at this
          exact this
        have HW0 := Lib.hid hW0
        have HF4 : Hid (n * 4 + (ncells (wrd F m)).size ≤ (ncells (wo F n)).size) := by show _ ≤ _; rw [nsize, nsize, wo_len, show (wrd F m).length = 4 from tab_len _ _]; omega
        have I4 := Lib.hid (i40 (b := wrd F m) (tab_len _ _))
        have I7 := Lib.hid (i40 (b := wrd F p) (tab_len _ _))
        have g2' : (wr.setRow (w.heap.size + 1 + 1) (ncells (wi F m 0))).heap[w.heap.size + 1 + 1]? = some (.cells (ncells (wi F m 0)) 82 (0, 0)) := setRow_heap _ _ _ _ _ _ hg2
        have g1' : (wr.setRow (w.heap.size + 1 + 1) (ncells (wi F m 0))).heap[w.heap.size + 1]? = some (.cells Z 82 (0, 0)) := by rw [setRow_other _ _ _ _ (by omega)]; exact hg1
        have g0' : (wr.setRow (w.heap.size + 1 + 1) (ncells (wi F m 0))).heap[w.heap.size]? = some (.cells (ncells key) 23 (0, 0)) := by rw [setRow_other _ _ _ _ (by omega)]; exact hg0
        have hb' : Below w.heap.size w (wr.setRow (w.heap.size + 1 + 1) (ncells (wi F m 0))) := hbel.trans (below_row (B := w.heap.size) (g := w.heap.size + 1 + 1) _ _ (by omega))
        have RG2 : Hid ((wr.setRow (w.heap.size + 1 + 1) (ncells (wi F m 0))).rangeAt (w.heap.size + 1 + 1) (p * 4) (ncells (wrd F p)).toList) := range4 F g2' (wi_len F m 0) (by omega) (fun k hk4 => by rw [wi_low _ _ _ _ (by omega) (by omega), Nat.mul_comm p 4])
        have G2a := Lib.hid hg2
        have G0 := Lib.hid g0'
        have G1 := Lib.hid g1'
        have G2 := Lib.hid g2'
        have HB := Lib.hid hb'
        have HN := Lib.hid hn
        have HP := Lib.hid hp
        clear hg0 hg1 hg2 hbel g0' g1' g2' hb' hW0 hn hp hi h8
        obtain ⟨C4, hC4⟩ : ∃ C, C = ncells (wrd F m) := ⟨_, rfl⟩
        have OC : Hid (∀ v ∈ C4.toList, v.oneCell' = true) := by rw [hC4]; exact ones _
        rw [← hC4] at RG1 HW0 HF4 I4
        clear hC4
        generalize hW1 : wr.setRow (w.heap.size + 1 + 1) (ncells (wi F m 0)) = W1 at *
        have HW1 := Lib.hid hW1
        clear hW1
        have AD : Hid (Calls Tryz.prog 69 #[.agg (ncells (wrd F p)), .int .i64 n, .pointer (some ⟨g, o, none⟩)] W1 fun e w' => e = .returned (.agg (ncells (addw (wrd F p) n))) ∧ Below W1.heap.size W1 w') :=
          added (wrd F p) (tab_bts fun k _ => HFB.out.at_lt _) n (by omega) (by have := HN.out; omega) g o W1 (fun j hj => (HB.out.cell (p := ⟨g, o + j, none⟩) LG.out).trans (HC.out j hj))
        have AB : Bts 4 (addw (wrd F p) n) := addw_bts (tab_bts fun k _ => HFB.out.at_lt _) n
        have HX : Hid (∀ k, k < 4 → at_ F (4 * n + k) = Nat.xor (at_ F (4 * m + k)) (at_ (addw (wrd F p) n) k)) := fun k hk4 => by
          have h1 := HN.out
          have h2 := HP.out
          rw [h2, h1]; exact HNEXT.out m k (by omega) hk4
        generalize addw (wrd F p) n = A at *
        have HAB := Lib.hid AB
        clear AB
        obtain ⟨C7, hC7⟩ : ∃ C, C = ncells (wrd F p) := ⟨_, rfl⟩
        rw [← hC7] at RG2 I7 AD
        clear hC7
        go_wp2_with (first
          | (refine wpList_load_at rfl 81 (.tmp 24) rfl (w.heap.size + 1 + 1) (m * 4) rfl C4 _ RG1.out Tryz.underlying81 rfl I4.out ?_)
          | (refine wpList_store_at rfl 81 (.tmp 26) (.tmp 25) rfl (w.heap.size + 1 + 1) (n * 4) C4 rfl rfl 82 (ncells (wo F n)) (ncells (wi F m 0)) G2a.out I4.out HF4.out OC.out HW0.out ?_; rw [HW1.out])
          | (refine wpList_load_at rfl 81 (.tmp 29) rfl (w.heap.size + 1 + 1) (p * 4) rfl C7 _ RG2.out Tryz.underlying81 rfl I7.out ?_))
        refine (AD.out).mono ?_
        rintro e w2 ⟨rfl, hb2⟩
        have G0' := Lib.hid ((hb2.block _ (blk_lt G0.out)).trans G0.out)
        have G1' := Lib.hid ((hb2.block _ (blk_lt G1.out)).trans G1.out)
        have G2' := Lib.hid ((hb2.block _ (blk_lt G2.out)).trans G2.out)
        have HB' := Lib.hid (HB.out.trans (hb2.mono HB.out.size))
        clear G0 G1 G2 HB AD RG1 RG2 G2a HW0 HF4 I4 I7 OC HW1 hb2 hm8 hp7 ml pl p0 m0
        clear HP
        go_wp2_with fail
        go_loopw [7, 8, 34] (fun _ _ vk wr => ∃ k : Nat, k ≤ 4 ∧ vk = .int .i64 k ∧ wr.heap[w.heap.size]? = some (.cells (ncells key) 23 (0, 0)) ∧ wr.heap[w.heap.size + 1]? = some (.cells Z 82 (0, 0)) ∧ wr.heap[w.heap.size + 1 + 1]? = some (.cells (ncells (wi F m k)) 82 (0, 0)) ∧ Below w.heap.size w wr) (fun _ _ vk _ => 4 - (intOf vk).toNat)
        case atStart => exact ⟨0, by omega, rfl, G0'.out, G1'.out, G2'.out, HB'.out⟩
        case round =>
          clear G0' G1' G2' HB'
          obtain ⟨k, hk4, rfl, hg0, hg1, hg2, hbel⟩ := hrel
          by_cases hlk : k < 4
          · have c1 := cell_at hg2 (wi_len F m k) (show n * 4 + k < 240 by have := HN.out; omega)
            have e1 : at_ (wi F m k) (n * 4 + k) = at_ F (4 * m + k) := by rw [HN.out]; exact wi_at F m k hlk (by have := HN.out; omega)
            rw [e1] at c1
            have f2 := frozen_of_row wr (w.heap.size + 1 + 1) (n * 4 + k) _ 82 hg2
            have ix := idx40 A HAB.out.1 k hlk
            have hx := xor8 (at_ F (4 * m + k)) (at_ A k) (HFB.out.at_lt _) (HAB.out.at_lt _)
            rw [← HX.out k hlk] at hx
            have HXX := Lib.hid hx
            have US : Hid ((ncells (wi F m k)).setIfInBounds (n * 4 + k) (.int .u8 (at_ F (4 * n + k) : Nat)) = ncells (wi F m (k + 1))) := by
              show _ = _
              rw [nset, HN.out, wi_set F m k hlk]
            have G0 := Lib.hid hg0
            have G1 := Lib.hid hg1
            have G2 := Lib.hid hg2
            have HB := Lib.hid hbel
            clear hg0 hg1 hg2 hbel hx e1
            generalize at_ F (4 * m + k) = x at *
            generalize at_ A k = y at *
            generalize at_ F (4 * n + k) = z at *
            go_wp2_with fail
            go_still_tail 9, (by kernel_rfl)
            change wpList _ _ _ _ _ wr.drew
            rw [HXX.out]
            clear ix
            go_wp2_with fail
            go_roundw
            case rel =>
              have hsetB : Below w.heap.size w (wr.setCell ⟨w.heap.size + 1 + 1, n * 4 + k, none⟩ (.int .u8 (z : Nat))).drew := (HB.out.setCell (by simp; omega) _).drew
              exact ⟨k + 1, by omega, by go_num, (heap_setCell_other _ _ _ _ (by simp; omega)).trans G0.out, (heap_setCell_other _ _ _ _ (by simp)).trans G1.out, (heap_setCell_same _ _ _ _ _ _ G2.out).trans (by rw [US.out]), hsetB⟩
            case measure => simp [intOf]; omega
          · obtain rfl : k = 4 := by omega
            rw [wi_four, show m + 9 = n + 1 by have := HN.out; omega] at hg2
            have G0 := Lib.hid hg0
            have G1 := Lib.hid hg1
            have G2 := Lib.hid hg2
            have HB := Lib.hid hbel
            clear hg0 hg1 hg2 hbel
            go_wp2_with fail
            go_roundw
            case rel => exact ⟨n + 1, by omega, by go_num, G0.out, G1.out, G2.out, HB.out⟩
            case measure => simp [intOf]; omega
      · obtain rfl : i = 60 := by omega
        rw [UA.out] at hg2
        have G1 := Lib.hid hg1
        have G2 := Lib.hid hg2
        have HB := Lib.hid hbel
        clear hg0 hg1 hg2 hbel
        go_wp2_with (first
          | (refine wpList_load_row rfl 82 (.tmp 5) rfl (w.heap.size + 1 + 1) rfl 82 (ncells F) (0, 0) _ G2.out Tryz.underlying82 rfl IR.out ?_)
          | (refine wpList_store_row rfl 82 (.tmp 4) (.tmp 49) rfl (w.heap.size + 1) (ncells F) rfl rfl 82 Z G1.out IR.out ZR.out OR.out ?_))
        refine bodyPost_ret (v := .agg (ncells F)) (results_cell_row Tryz.results48 _ _ (w.heap.size + 1) 82 _ (0, 0) _ rfl (setRow_heap _ _ _ _ _ _ G1.out) Tryz.underlying82 rfl IR.out) rfl ⟨rfl, ?_⟩
        exact HB.out.trans (below_row _ _ (by omega))
end Go.Proofs.YtpkeofioobmmoaaGreatDoor.ae
