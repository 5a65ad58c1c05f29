/-
  Contracts of the functions that the statements of package entry go through: fields that are joined to a value of 44 bytes. Condition: the fields lie in memory, and fill no more than 44 bytes.
-/
import Derived.Test.YtbhkhkiidaemcaaK
namespace Go.Proofs.Ytbhkhkiidaemcaa
open Go.RowKit
/-- Fields, and noughts behind. -/
def fv (P : List (List Int)) : List Int := P.flatten ++ zs (44 - P.flatten.length)
theorem fv_len {P : List (List Int)} (h : P.flatten.length ≤ 44) : (fv P).length = 44 := by
  unfold fv
  rw [List.length_append, zs_len]; omega
theorem fv_byt {P : List (List Int)} (h : Byt P.flatten) : Byt (fv P) := h.append (zs_byt _)
set_option maxRecDepth 100000 in
theorem z38 (w : World) : (zeroValue 38).run Try.prog w = .ok (.agg (bcells (zs 44))) w := by kernel_rfl
set_option maxRecDepth 100000 in
theorem b38 (w : World) : (Instr.build 38 #[]).run Try.prog w = .ok (.agg (bcells (zs 44))) w := by kernel_rfl
theorem i38 {xs : List Int} (h : xs.length = 44) : (Try.prog.info? 38).map (·.size) = some (bcells xs).size := by
  rw [bcells_size, h]; kernel_rfl
/-- A slice of slices of bytes in memory. -/
def PT (w : World) (pv : Value) (P : List (List Int)) : Prop :=
  ∃ b o c, pv = .slice (some ⟨b, o, none⟩) P.length c ∧ P.length ≤ 100 ∧
    ∀ i p, P[i]? = some p → ∃ bx ox c', w.cell? ⟨b, o + i, none⟩ = some (.slice (some ⟨bx, ox, none⟩) p.length c') ∧ ∀ j, j < p.length → w.cell? ⟨bx, ox + j, none⟩ = some (.int .u8 (nth p j))
def ValueP (w : World) (P : List (List Int)) (e : Ending) (w' : World) : Prop := e = .returned (.agg (bcells (fv P))) ∧ Below w.heap.size w w'
theorem JP_all (P : List (List Int)) : JP (zs 44) P P.length = fv P := by
  unfold JP fv
  rw [FP_all, zs_drop]
set_option maxRecDepth 100000 in
set_option maxHeartbeats 4000000 in
theorem value (P : List (List Int)) (pv : Value) (hp0 : ∀ p ∈ P, p ≠ []) (hs : P.flatten.length ≤ 44) (w : World) (hp : PT w pv P) :
    Calls Try.prog 32 #[pv] w (ValueP w P) := by
  obtain ⟨b, o, c, rfl, hpl, hcell⟩ := hp
  obtain ⟨W0, hW0⟩ : ∃ W0, W0 = (w.alloc (.cells (bcells (zs 44)) 38)).alloc (.cells (bcells (zs 44)) 38) := ⟨_, rfl⟩
  have B0 : Below w.heap.size w W0 := by rw [hW0]; exact ((Below.refl _ _).alloc (Nat.le_refl _) _).alloc (by simp) _
  obtain ⟨g, hg⟩ : ∃ g, g = w.heap.size + 1 := ⟨_, rfl⟩
  have hG : W0.heap[g]? = some (.cells (bcells (zs 44)) 38 (0, 0)) := by rw [hW0, hg]; exact heap_alloc2_new w _ _
  have hG0 : W0.heap[w.heap.size]? = some (.cells (bcells (zs 44)) 38 (0, 0)) := by rw [hW0, Below.heap_alloc _ _ _ (by simp)]; exact heap_alloc_new w _
  have HC : Hid (∀ i p, P[i]? = some p → ∃ bx ox c', W0.cell? ⟨b, o + i, none⟩ = some (.slice (some ⟨bx, ox, none⟩) p.length c') ∧ b ≠ g ∧ bx ≠ g ∧ ∀ j, j < p.length → W0.cell? ⟨bx, ox + j, none⟩ = some (.int .u8 (nth p j))) := fun i p h => by
    obtain ⟨bx, ox, c', h1, h2⟩ := hcell i p h
    have hb := World.block_lt_of_cell? w _ h1
    have hpp := hp0 p (List.mem_of_getElem? h)
    have hl : 0 < p.length := by cases p with
      | nil => exact absurd rfl hpp
      | cons _ _ => simp
    have hx := World.block_lt_of_cell? w _ (h2 0 hl)
    simp only at hb hx
    exact ⟨bx, ox, c', by rw [B0.cell hb]; exact h1, by omega, by omega, fun j hj => by rw [B0.cell hx]; exact h2 j hj⟩
  have HG := Lib.hid hG
  have HG0 := Lib.hid hG0
  have HS := Lib.hid hs
  have HB0 := Lib.hid B0
  have HW0 := Lib.hid hW0
  have HGG := Lib.hid hg
  have HZ := z38
  obtain ⟨n, hnp⟩ : ∃ n, n = P.length := ⟨_, rfl⟩
  rw [← hnp]
  have HNP := Lib.hid hnp
  have hn100 : (n : Int) ≤ 100 := by omega
  have hgs : g ≠ w.heap.size := by omega
  clear hcell hs hpl hnp hG hG0 B0
  have HP0 := Lib.hid hp0
  clear hW0 hg hp0
  have HL : Hid ((zs 44).length = 44) := zs_len 44
  have hu : (Try.prog.info? 38).map (·.size) = some (bcells (zs 44)).size := i38 (zs_len _)
  have HU := Lib.hid hu
  clear hu
  go_enter Try.func32, Try.ntmps32
  go_wp2_with fail
  rw [← HW0.out, ← HGG.out]
  go_loopw [4, 9] (fun v4 v9 wr => ∃ k : Nat, k ≤ n ∧ v9 = .int .i64 (k : Int) ∧ v4 = .int .i64 ((FP P k).length : Int) ∧ wr = W0.setRow g (bcells (JP (zs 44) P k)))
    (fun _ v9 _ => n - (intOf v9).toNat)
  case atStart =>
    refine ⟨0, by omega, rfl, by simp [FP], ?_⟩
    have e : JP (zs 44) P 0 = zs 44 := by simp [JP, FP]
    rw [e, setRow_self W0 g _ 38 (0, 0) HG.out]
  case round =>
    obtain ⟨k, hk, rfl, rfl, rfl⟩ := hrel
    by_cases hlt : k < n
    · have hki : (k : Int) < n := by omega
      have hkP : k < P.length := by rw [← HNP.out]; exact hlt
      obtain ⟨bx, ox, c', hc, hbg, hxg, hsrc⟩ := HC.out k P[k] (List.getElem?_eq_getElem hkP)
      have hp1 : P[k] ≠ [] := HP0.out _ (List.getElem_mem hkP)
      have hstep := JP_step (zs 44) P k P[k] (List.getElem?_eq_getElem hkP)
      have hsu := FP_succ P k P[k] (List.getElem?_eq_getElem hkP)
      have hle := FP_le P (k + 1)
      have hl0 := FP_le P k
      have hJ := JP_len (zs 44) P k (by have := HS.out; have := HL.out; omega)
      generalize P[k] = p at *
      rw [hsu, List.length_append] at hle
      have hc2 : (W0.setRow g (bcells (JP (zs 44) P k))).cell? ⟨b, o + k, none⟩ = some (.slice (some ⟨bx, ox, none⟩) p.length c') := by rw [cell_setRow_other _ _ _ _ hbg]; exact hc
      have hl44 : (FP P k).length + p.length ≤ 44 := by have := HS.out; omega
      have hpm : p.length ≤ 44 - (FP P k).length := by omega
      have hrun := run_copy_row Try.prog (W0.setRow g (bcells (JP (zs 44) P k))) 43 43 3 5 g (FP P k).length (44 - (FP P k).length) (44 - (FP P k).length) ⟨bx, ox, none⟩ p.length c' (bcells (JP (zs 44) P k)) 38 (p.map (Value.int .u8)) Try.underlying43 info5s (setRow_heap _ _ _ _ _ _ HG.out)
        (by rw [List.length_map]; exact (Nat.min_eq_left hpm).symm) (fun j u hj => by
          have hjl : j < p.length := by
            rcases Nat.lt_or_ge j p.length with h | h
            · exact h
            · simp [List.getElem?_eq_none (show (p.map (Value.int .u8)).length ≤ j by simpa using h)] at hj
          have hplain : (⟨bx, ox, none⟩ : Addr).add j = ⟨bx, ox + j, none⟩ := by unfold Addr.add; split <;> simp_all
          rw [hplain, cell_setRow_other _ _ _ _ hxg, hsrc j hjl, ← hj]
          simp [nth, List.getD, hjl]) (by rw [bcells_size, hJ, HL.out]; simp; omega) (by simp [Value.oneCell'])
      have hnew : (W0.setRow g (bcells (JP (zs 44) P k))).setRow g ((bcells (JP (zs 44) P k)).toList.take (FP P k).length ++ p.map (Value.int .u8) ++ (bcells (JP (zs 44) P k)).toList.drop ((FP P k).length + (p.map (Value.int .u8)).length)).toArray = W0.setRow g (bcells (JP (zs 44) P (k + 1))) := by
        rw [setRow_setRow, ← hstep]
        simp [bcells, List.map_take, List.map_drop]
      rw [hnew] at hrun
      have hgo : goInt (List.map (Value.int .u8) p).length = .int .i64 p.length := by simp [goInt]
      rw [hgo] at hrun
      have HR := Lib.hid hrun
      have HM : Hid ((FP P (k + 1)).length = (FP P k).length + p.length) := by rw [hsu]; exact List.length_append
      have hm44 : (p.length : Int) ≤ 44 := by omega
      have hp2 : 0 < p.length := by
        cases p with
        | nil => exact absurd rfl hp1
        | cons _ _ => simp
      have hf44 : ((FP P k).length : Int) ≤ 44 := by omega
      have hf45 : ¬ 44 = (FP P k).length := by omega
      clear hp1
      clear hrun hnew hstep hsu hle hl0 hJ hsrc hc hgo hl44 hpm
      generalize W0.setRow g (bcells (JP (zs 44) P k)) = wk at *
      generalize (FP P k).length = f at *
      go_wp2_with (refine wpList_copy_run rfl (.tmp 15) (.tmp 16) rfl rfl rfl rfl HR.out ?_)
      go_roundw
      case rel => exact ⟨k + 1, by omega, by go_num, by rw [HM.out]; go_num, rfl⟩
      case measure => simp [intOf]; omega
    · have hk2 : k = n := by omega
      subst hk2
      have e : JP (zs 44) P k = fv P := by rw [HNP.out, JP_all]
      have E := Lib.hid (show W0.setRow g (bcells (JP (zs 44) P k)) = W0.setRow g (bcells (fv P)) by rw [e])
      have G1 : Hid ((W0.setRow g (bcells (fv P))).heap[g]? = some (.cells (bcells (fv P)) 38 (0, 0))) := setRow_heap _ _ _ _ _ _ HG.out
      have G2 : Hid ((W0.setRow g (bcells (fv P))).heap[w.heap.size]? = some (.cells (bcells (zs 44)) 38 (0, 0))) := by
        show _ = _
        rw [setRow_other _ _ _ _ (Ne.symm hgs)]; exact HG0.out
      have L44 : Hid ((fv P).length = 44) := fv_len HS.out
      have BV : Hid (Below w.heap.size w (W0.setRow g (bcells (fv P)))) := HB0.out.trans (below_row _ _ (by have := HGG.out; omega))
      rw [E.out]
      clear e E
      generalize W0.setRow g (bcells (fv P)) = V at *
      generalize (FP P k).length = f at *
      have I1 := Lib.hid (i38 L44.out)
      have SZ := Lib.hid (bcells_sz (show (zs 44).length = (fv P).length by rw [HL.out, L44.out]))
      have OC := Lib.hid (one_cells (fv P))
      have U38 := Lib.hid Try.underlying38
      go_wp2_with (first
        | (refine wpList_load_row rfl 38 (.tmp 3) rfl g rfl 38 _ (0, 0) _ G1.out U38.out rfl I1.out ?_)
        | (refine wpList_store_row rfl 38 (.tmp 2) (.tmp 20) rfl w.heap.size (bcells (fv P)) rfl rfl 38 _ G2.out I1.out SZ.out OC.out ?_))
      exact bodyPost_ret (v := .agg (bcells (fv P))) (results_cell_row Try.results32 _ _ w.heap.size 38 _ (0, 0) _ rfl (setRow_heap _ _ _ _ _ _ G2.out) U38.out rfl I1.out) rfl ⟨rfl, BV.out.trans (below_row _ _ (Nat.le_refl _))⟩
end Go.Proofs.Ytbhkhkiidaemcaa
