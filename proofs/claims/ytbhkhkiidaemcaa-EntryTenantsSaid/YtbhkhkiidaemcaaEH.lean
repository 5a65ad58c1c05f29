/-
  Contracts of the functions that the statements of package entry go through: a count that is held against how it is written; the next sum and the next reference of a reader. Condition: the reader has that many bytes left.
-/
import Derived.Test.YtbhkhkiidaemcaaEG
import Derived.Test.YtbhkhkiidaemcaaER
namespace Go.Proofs.Ytbhkhkiidaemcaa
open Go.RowKit
set_option maxRecDepth 100000 in
set_option maxHeartbeats 8000000 in
theorem chkCount (n : Int) (h0 : 0 ≤ n) (h1 : n ≤ 18446744073709551615) (v : List Int) (hv : Byt v) (lv : v.length = 44) (w : World) :
    Calls Try.prog 38 #[.int .u64 n, .agg (bcells v), .func (.func 39) #[] #[]] w (ChP w True (cW n) v (.int .u64 n) (.int .u64 0)) := by
  have C1 : Hid (∀ W : World, Calls Try.prog 39 #[.int .u64 n] W fun e w' => e = .returned (.tuple #[.agg (bcells (cW n)), .int .i64 0]) ∧ Below W.heap.size W w') := fun W => by
    have := writeCountE n h0 h1 W
    unfold WrP at this
    rw [if_pos trivial, if_pos trivial] at this
    exact this
  have IV := Lib.hid (i38 (cW_len n))
  have Iv := Lib.hid (i38 lv)
  have SV := Lib.hid (bcells_sz (show (zs 44).length = (cW n).length by rw [zs_len, cW_len]))
  have OV := Lib.hid (one_cells (cW n))
  have HZ8 := z38
  have EQ := Lib.hid (eq38 (cW n) v (cW_byt n) hv (cW_len n) lv)
  have NO2 : Hid (¬ cW n = v → ∀ W, Below w.heap.size w W → ChP w True (cW n) v (.int .u64 n) (.int .u64 0) (.returned (.tuple #[.int .u64 0, .int .i64 3])) W) := fun h W hb => chP_no (fun e => h e.2) hb
  have YES : Hid (cW n = v → ∀ W, Below w.heap.size w W → ChP w True (cW n) v (.int .u64 n) (.int .u64 0) (.returned (.tuple #[.int .u64 n, .int .i64 0])) W) := fun h2 W hb => chP_yes ⟨trivial, h2⟩ hb
  obtain ⟨W0, hW0⟩ : ∃ W0, W0 = w.alloc (.cells (bcells v) 38) := ⟨_, rfl⟩
  have BE : Hid (Below w.heap.size w W0) := by rw [hW0]; exact (Below.refl _ _).alloc (Nat.le_refl _) _
  have G1 : Hid (W0.heap[w.heap.size]? = some (.cells (bcells v) 38 (0, 0))) := by
    show _ = _
    rw [hW0]; exact heap_alloc_new w _
  have HW0 := Lib.hid hW0
  clear hW0 hv lv h0 h1
  generalize hCV : bcells (cW n) = CV at *
  generalize hcv : bcells v = cv at *
  generalize bcells (zs 44) = Z8 at *
  clear hCV hcv
  by_cases hE : cW n = v
  · have eq : ∀ w : World, (Op.equalIn 10000 38 (.agg CV) (.agg cv)).run Try.prog w = .ok true w := fun W => by rw [EQ.out W, decide_eq_true hE]
    have HE := Lib.hid hE
    clear hE EQ
    go_enter Try.func38, Try.ntmps38
    go_upto_region 1 with (fail)
    rw [← HW0.out]
    go_wp2_with fail
    refine (C1.out _).mono ?_
    rintro e w1 ⟨rfl, hb⟩
    have B1 := Lib.hid (BE.out.trans (hb.mono BE.out.size))
    have Gb := Lib.hid ((hb.block _ (blk_lt G1.out)).trans G1.out)
    clear hb BE G1
    have GN := Lib.hid (heap_alloc_new w1 (.cells Z8 38))
    have RN := Lib.hid (alloc_setRowT w1 Z8 CV 38 _ rfl)
    have hal : Below w1.heap.size w1 (w1.alloc (.cells CV 38)) := (Below.refl _ _).alloc (Nat.le_refl _) _
    have GV := Lib.hid (heap_alloc_new w1 (.cells CV 38))
    have B2 := Lib.hid (B1.out.trans (hal.mono B1.out.size))
    have Hb := Lib.hid ((hal.block _ (blk_lt Gb.out)).trans Gb.out)
    clear hal
    go_upto_region 2 with (refine wpList_store_row rfl 38 (.tmp 8) (.tmp 15) rfl w1.heap.size CV rfl rfl 38 Z8 GN.out IV.out SV.out OV.out ?_)
    rw [RN.out]
    generalize w1.alloc (.cells CV 38) = W2 at *
    generalize w1.heap.size = g8 at *
    go_wp2_with (first
      | (refine wpList_load_met' rfl 38 (.tmp 8) rfl g8 rfl 38 CV (0, 0) _ GV.out Try.underlying38 ⟨_, _, rfl⟩ IV.out ?_)
      | (refine wpList_load_met' rfl 38 (.tmp 4) rfl w.heap.size rfl 38 cv (0, 0) _ Hb.out Try.underlying38 ⟨_, _, rfl⟩ Iv.out ?_))
    go_ret2
    exact YES.out HE.out _ B2.out
  · have eq : ∀ w : World, (Op.equalIn 10000 38 (.agg CV) (.agg cv)).run Try.prog w = .ok false w := fun W => by rw [EQ.out W, decide_eq_false hE]
    have HE := Lib.hid hE
    clear hE EQ
    go_enter Try.func38, Try.ntmps38
    go_upto_region 1 with (fail)
    rw [← HW0.out]
    go_wp2_with fail
    refine (C1.out _).mono ?_
    rintro e w1 ⟨rfl, hb⟩
    have B1 := Lib.hid (BE.out.trans (hb.mono BE.out.size))
    have Gb := Lib.hid ((hb.block _ (blk_lt G1.out)).trans G1.out)
    clear hb BE G1
    have GN := Lib.hid (heap_alloc_new w1 (.cells Z8 38))
    have RN := Lib.hid (alloc_setRowT w1 Z8 CV 38 _ rfl)
    have hal : Below w1.heap.size w1 (w1.alloc (.cells CV 38)) := (Below.refl _ _).alloc (Nat.le_refl _) _
    have GV := Lib.hid (heap_alloc_new w1 (.cells CV 38))
    have B2 := Lib.hid (B1.out.trans (hal.mono B1.out.size))
    have Hb := Lib.hid ((hal.block _ (blk_lt Gb.out)).trans Gb.out)
    clear hal
    go_upto_region 2 with (refine wpList_store_row rfl 38 (.tmp 8) (.tmp 15) rfl w1.heap.size CV rfl rfl 38 Z8 GN.out IV.out SV.out OV.out ?_)
    rw [RN.out]
    generalize w1.alloc (.cells CV 38) = W2 at *
    generalize w1.heap.size = g8 at *
    go_wp2_with (first
      | (refine wpList_load_met' rfl 38 (.tmp 8) rfl g8 rfl 38 CV (0, 0) _ GV.out Try.underlying38 ⟨_, _, rfl⟩ IV.out ?_)
      | (refine wpList_load_met' rfl 38 (.tmp 4) rfl w.heap.size rfl 38 cv (0, 0) _ Hb.out Try.underlying38 ⟨_, _, rfl⟩ Iv.out ?_))
    go_ret2
    exact NO2.out HE.out _ B2.out
/-! ### The next sum, the next reference -/
theorem grown_row {w w' : World} {r : Option Nat} (h : w.grownBy w' r) (k : Nat) (hk : w.heap.size ≤ k) (cs : Array Value) : w.grownBy (w'.setRow k cs) r :=
  ⟨h.os, h.tape, h.output, by simpa using h.size, fun i hi hr => by rw [setRow_other w' k i cs (by omega)]; exact h.block i hi hr⟩
theorem grown_drew (w : World) (r : Option Nat) : w.grownBy w.drew r := ⟨rfl, rfl, rfl, Nat.le_refl _, fun _ _ _ => rfl⟩
theorem grown_alloc {w w' : World} {r : Option Nat} (h : w.grownBy w' r) (o : Obj) : w.grownBy (w'.alloc o) r :=
  ⟨h.os, h.tape, h.output, by simp; have := h.size; omega, fun i hi hr => by rw [Below.heap_alloc _ _ _ (Nat.lt_of_lt_of_le hi h.size)]; exact h.block i hi hr⟩
theorem cpS (W : World) (g t : Nat) (L p : List Int) (q n : Nat) (hg : W.heap[g]? = some (.cells (bcells L) t (0, 0))) (hs : Sees W (.slice (some ⟨q, 0, none⟩) n n) p) (hn : n = p.length) (hL : L.length = n) :
    (Builtin.copy_ #[43, 43] 3 #[.slice (some ⟨g, 0, none⟩) n n, .slice (some ⟨q, 0, none⟩) n n]).run Try.prog W = .ok (.int .i64 n) (W.setRow g (bcells p)) := by
  subst hn
  have hl : (p.map (Value.int .u8)).length = p.length := by simp
  rw [run_copy_row Try.prog W 43 43 3 5 g 0 p.length p.length ⟨q, 0, none⟩ p.length p.length (bcells L) t (p.map (Value.int .u8)) Try.underlying43 info5s hg (by rw [hl]; exact (Nat.min_self _).symm) (fun j u hj => by
      have hjl : j < p.length := by
        rcases Nat.lt_or_ge j p.length with h | h
        · exact h
        · simp [List.getElem?_eq_none (show (p.map (Value.int .u8)).length ≤ j by simpa using h)] at hj
      obtain ⟨_, ⟨h1, _⟩ | ⟨_, _, _, h2, _⟩ | ⟨b, o, c, h1, _, _, _, hc⟩⟩ := hs
      · cases h1
      · subst h2; simp at hjl
      · injection h1 with e1 e2 e3
        injection e1 with e1
        injection e1 with e4 e5
        subst e4 e5
        have hplain : (⟨q, 0, none⟩ : Addr).add j = ⟨q, 0 + j, none⟩ := by unfold Addr.add; split <;> simp_all
        rw [hplain, hc j hjl, ← hj]
        simp [nth, List.getD, hjl]) (by rw [hl, bcells_size, hL]; omega) (by simp [Value.oneCell'])]
  have e : ((bcells L).toList.take 0 ++ p.map (Value.int .u8) ++ (bcells L).toList.drop (0 + (p.map (Value.int .u8)).length)).toArray = bcells p := by
    rw [hl, bcells_toList, List.drop_of_length_le (by simp [hL])]
    simp [bcells]
  rw [e]
  simp [goInt]
def SumP (w : World) (g : Nat) (p r : List Int) (e : Ending) (w' : World) : Prop := e = .returned (.agg (bcells p)) ∧ rx.RD w' g r false ∧ w.grownBy w' (some g)
set_option maxRecDepth 100000 in
theorem z33 (w : World) : (zeroValue 33).run Try.prog w = .ok (.agg (bcells (zs 32))) w := by kernel_rfl
theorem i33 {xs : List Int} (h : xs.length = 32) : (Try.prog.info? 33).map (·.size) = some (bcells xs).size := by
  rw [bcells_size, h]; kernel_rfl
set_option maxRecDepth 100000 in
set_option maxHeartbeats 8000000 in
theorem nextSum (g : Nat) (p r : List Int) (hp : p.length = 32) (hl : (p ++ r).length ≤ 2000) (w : World) (h : rx.RD w g (p ++ r) false) : Calls Try.prog 50 #[.pointer (some ⟨g, 0, none⟩)] w (SumP w g p r) := by
  have hz := z33
  have hg := h.lt
  obtain ⟨W0, hW0⟩ : ∃ W0, W0 = (w.alloc (.cells (bcells (zs 32)) 33)).alloc (.cells (bcells (zs 32)) 33) := ⟨_, rfl⟩
  have BE : Below w.heap.size w W0 := by rw [hW0]; exact ((Below.refl _ _).alloc (Nat.le_refl _) _).alloc (by simp) _
  have GA : Hid (W0.heap[w.heap.size]? = some (.cells (bcells (zs 32)) 33 (0, 0))) := by
    show _ = _
    rw [hW0, Below.heap_alloc _ _ _ (by simp)]; exact heap_alloc_new w _
  have GB : Hid (W0.heap[w.heap.size + 1]? = some (.cells (bcells (zs 32)) 33 (0, 0))) := by
    show _ = _
    rw [hW0]; exact heap_alloc2_new w _ _
  have R0 := Lib.hid (h.below BE)
  have g0 : w.grownBy W0 (some g) := by rw [hW0]; exact grown_alloc (grown_alloc (grownBy_refl _ _) _) _
  have GR := Lib.hid g0
  have RB : Hid (∀ W, rx.RD W g (p ++ r) false → Calls Try.prog 61 #[.pointer (some ⟨g, 0, none⟩), .int .i64 32] W (rx.RdB W g 32 p r)) := fun W hW => rx.rdB g 32 p r hp hl W hW
  have HW0 := Lib.hid hW0
  have HP := Lib.hid hp
  have SZW : Hid (w.heap.size + 2 ≤ W0.heap.size) := by show _ ≤ _; rw [hW0]; simp
  have IP := Lib.hid (i33 hp)
  have SP := Lib.hid (bcells_sz (show (zs 32).length = p.length by rw [zs_len, hp]))
  have OP := Lib.hid (one_cells p)
  clear hW0 h BE hp hl g0
  go_enter Try.func50, Try.ntmps50
  go_upto_region 2 with (fail)
  rw [← HW0.out]
  refine wp_region_held_drew (S := fun _ => True) (by kernel_rfl) trivial (fun hS => ?_)
  have hd : Below W0.heap.size W0 W0.drew := (Below.refl _ _).drew
  have R0 := Lib.hid (R0.out.below hd)
  have GA := Lib.hid ((hd.block _ (blk_lt GA.out)).trans GA.out)
  have GB := Lib.hid ((hd.block _ (blk_lt GB.out)).trans GB.out)
  have SZW := Lib.hid (Nat.le_trans SZW.out hd.size)
  have GR : Hid (w.grownBy W0.drew (some g)) := octetReads.grownBy_trans GR.out (grown_drew W0 _)
  clear hd
  generalize W0.drew = Wss at *
  refine' wpAnyH_take (i := 0) ?h1x0s ?hsx0s ?hfx0s ?hrx0s ?hQx0s (Or.inl ⟨?hwx0s, ?hyx0s⟩) hS ?restx0s
  case h1x0s => (simp only [List.getElem?_toArray, List.getElem?_cons_zero]; rfl)
  case hsx0s => kernel_rfl
  case hfx0s => kernel_rfl
  case hrx0s => kernel_rfl
  case hQx0s => exact fun _ _ _ h => h
  case hwx0s => rfl
  case hyx0s =>
    intro W hW
    go_simp
    try with_reducible rfl
  simp only [Act.put, List.setIfInBounds_toArray, List.set_cons_succ, List.set_cons_zero]
  refine' wpAnyH_take (i := 1) ?h1x1s ?hsx1s ?hfx1s ?hrx1s ?hQx1s (Or.inl ⟨?hwx1s, ?hyx1s⟩) hS ?restx1s
  case h1x1s => (simp only [List.getElem?_toArray, List.getElem?_cons_succ, List.getElem?_cons_zero]; rfl)
  case hsx1s => kernel_rfl
  case hfx1s => kernel_rfl
  case hrx1s => kernel_rfl
  case hQx1s => exact fun _ _ _ h => h
  case hwx1s => rfl
  case hyx1s =>
    intro W hW
    go_simp
    try with_reducible rfl
  simp only [Act.put, List.setIfInBounds_toArray, List.set_cons_succ, List.set_cons_zero]
  refine wpAnyH_ready (rs := [2]) (by kernel_rfl) (by simp) ?_
  refine' (AllReadyH.cons ?hoc2s (fun K hK => ?stc2s) AllReadyH.nil)
  case hoc2s => (simp only [List.getElem?_toArray, List.getElem?_cons_succ, List.getElem?_cons_zero]; rfl)
  go_simp
  refine (RB.out Wss R0.out).mono ?_
  rintro e Wsx2 ⟨q, rfl, hs, hq, hr, hgr⟩
  have hq2 : w.heap.size + 2 ≤ q := Nat.le_trans SZW.out hq
  have R1 := Lib.hid hr
  have S1 := Lib.hid hs
  have GR1 := Lib.hid (octetReads.grownBy_trans GR.out hgr)
  have GA1 := Lib.hid ((hgr.block _ (blk_lt GA.out) (by simp; omega)).trans GA.out)
  have GB1 := Lib.hid ((hgr.block _ (blk_lt GB.out) (by simp; omega)).trans GB.out)
  clear hs hr hgr hq GR GA GB R0
  go_wp2_with fail
  refine hK.out _ _ trivial (fun hHeld => ?_)
  clear hK K
  try simp only [Act.put, List.setIfInBounds_toArray, List.set_cons_succ, List.set_cons_zero]
  clear hS
  have hS := hHeld
  clear hHeld
  refine wpAnyH_ready (rs := [3]) (by kernel_rfl) (by simp) ?_
  refine' (AllReadyH.cons ?hoc3sx2 (fun K hK => ?stc3sx2) AllReadyH.nil)
  case hoc3sx2 => (simp only [List.getElem?_toArray, List.getElem?_cons_succ, List.getElem?_cons_zero]; rfl)
  have cp := cpS Wsx2 (w.heap.size + 1) 33 (zs 32) p q 32 GB1.out S1.out HP.out.symm (zs_len 32)
  refine step_copy_run rfl (.tmp 4) (.tmp 6) 43 43 rfl rfl rfl rfl cp ?_
  refine hK.out _ _ trivial (fun hHeld => ?_)
  clear hK K cp
  try simp only [Act.put, List.setIfInBounds_toArray, List.set_cons_succ, List.set_cons_zero]
  have GA2 := Lib.hid ((setRow_other Wsx2 (w.heap.size + 1) w.heap.size (bcells p) (by omega)).trans GA1.out)
  have GB2 := Lib.hid (setRow_heap Wsx2 _ _ (bcells p) _ _ GB1.out)
  have R2 := Lib.hid (R1.out.setRow (k := w.heap.size + 1) (bcells p) (by omega) (by omega))
  have GR2 := Lib.hid (grown_row GR1.out (w.heap.size + 1) (by omega) (bcells p))
  clear GA1 GB1 R1 GR1 S1
  generalize Wsx2.setRow (w.heap.size + 1) (bcells p) = V at *
  clear hS
  have hS := hHeld
  clear hHeld
  refine wpAnyH_done (by kernel_rfl) ?_ _
  go_wp2_with (first
    | (refine wpList_load_row rfl 33 (.tmp 3) rfl (w.heap.size + 1) rfl 33 (bcells p) (0, 0) _ GB2.out Try.underlying33 rfl IP.out ?_)
    | (refine wpList_store_row rfl 33 (.tmp 2) (.tmp 8) rfl w.heap.size (bcells p) rfl rfl 33 (bcells (zs 32)) GA2.out IP.out SP.out OP.out ?_))
  exact bodyPost_ret (v := .agg (bcells p)) (results_cell_row Try.results50 _ _ w.heap.size 33 _ (0, 0) _ rfl (setRow_heap _ _ _ _ _ _ GA2.out) Try.underlying33 rfl IP.out) rfl ⟨rfl, R2.out.setRow _ (by omega) (by omega), grown_row GR2.out _ (Nat.le_refl _) _⟩
end Go.Proofs.Ytbhkhkiidaemcaa
