/-
  Contracts of the functions that the statements of package super go through: parts that are joined in a row of bytes; how a head's bytes begin. Condition: the parts lie in memory, and have room.
-/
import Derived.Test.YtplffbpnjnbolaaSlG
import Derived.IntWalk
namespace Go.Proofs.Ytplffbpnjnbolaa
open Go.RowKit
/-- A slice of slices of bytes in memory, apart from block g. -/
def PS (w : World) (pv : Value) (P : List (List Int)) (g : Nat) : Prop :=
  ∃ b o c, pv = .slice (some ⟨b, o, none⟩) P.length c ∧ P.length ≤ 100 ∧
    ∀ i p, P[i]? = some p → ∃ bx ox c', w.cell? ⟨b, o + i, none⟩ = some (.slice (some ⟨bx, ox, none⟩) p.length c') ∧ b ≠ g ∧ bx ≠ g ∧ ∀ j, j < p.length → w.cell? ⟨bx, ox + j, none⟩ = some (.int .u8 (nth p j))
/-- What stands in the row behind k parts. -/
def FP (P : List (List Int)) (k : Nat) : List Int := (P.take k).flatten
def JP (L : List Int) (P : List (List Int)) (k : Nat) : List Int := FP P k ++ L.drop (FP P k).length
theorem FP_succ (P : List (List Int)) (k : Nat) (p : List Int) (h : P[k]? = some p) : FP P (k + 1) = FP P k ++ p := by
  obtain ⟨hk, rfl⟩ := List.getElem?_eq_some_iff.1 h
  unfold FP
  rw [List.take_succ_eq_append_getElem hk, List.flatten_append]
  exact congrArg _ (by simp)
theorem FP_le (P : List (List Int)) (k : Nat) : (FP P k).length ≤ P.flatten.length := by
  have h : P.flatten = FP P k ++ (P.drop k).flatten := by
    unfold FP
    rw [← List.flatten_append, List.take_append_drop]
  rw [h, List.length_append]; omega
theorem FP_all (P : List (List Int)) : FP P P.length = P.flatten := by simp [FP]
theorem JP_step (L : List Int) (P : List (List Int)) (k : Nat) (p : List Int) (h : P[k]? = some p) :
    (JP L P k).take (FP P k).length ++ p ++ (JP L P k).drop ((FP P k).length + p.length) = JP L P (k + 1) := by
  unfold JP
  rw [FP_succ P k p h, List.take_left, ← List.drop_drop, List.drop_left, List.drop_drop, List.length_append]
theorem JP_len (L : List Int) (P : List (List Int)) (k : Nat) (h : (FP P k).length ≤ L.length) : (JP L P k).length = L.length := by
  unfold JP
  rw [List.length_append, List.length_drop]; omega
def JoinP (w : World) (g : Nat) (L : List Int) (P : List (List Int)) (e : Ending) (w' : World) : Prop := (∃ r, e = .returned r) ∧ w' = w.setRow g (bcells (P.flatten ++ L.drop P.flatten.length))
set_option maxRecDepth 100000 in
set_option maxHeartbeats 4000000 in
theorem join (g : Nat) (t : TypeId) (L : List Int) (P : List (List Int)) (pv : Value) (hn : L.length ≤ 1000) (hs : P.flatten.length < L.length) (w : World) (hg : w.heap[g]? = some (.cells (bcells L) t (0, 0))) (hp : PS w pv P g) :
    Calls Try.prog 32 #[.slice (some ⟨g, 0, none⟩) L.length L.length, pv] w (JoinP w g L P) := by
  obtain ⟨b, o, c, rfl, hpl, hcell⟩ := hp
  have HC := Lib.hid hcell
  have HG := Lib.hid hg
  have HS := Lib.hid hs
  have HN := Lib.hid hn
  obtain ⟨n, hnp⟩ : ∃ n, n = P.length := ⟨_, rfl⟩
  rw [← hnp]
  have HNP := Lib.hid hnp
  have hn100 : (n : Int) ≤ 100 := by omega
  clear hcell hg hs hn hpl hnp
  go_enter Try.func32, Try.ntmps32
  go_wp2_with fail
  go_loopw [0, 8] (fun v0 v8 wr => ∃ k : Nat, k ≤ n ∧ v8 = .int .i64 (k : Int) ∧ v0 = .slice (some ⟨g, (FP P k).length, none⟩) (L.length - (FP P k).length) (L.length - (FP P k).length) ∧ wr = w.setRow g (bcells (JP L P k)))
    (fun _ v8 _ => n - (intOf v8).toNat)
  case atStart =>
    refine ⟨0, by omega, rfl, by simp [FP], ?_⟩
    have e : JP L P 0 = L := by simp [JP, FP]
    rw [e, setRow_self w g _ t (0, 0) HG.out]
  case round =>
    obtain ⟨k, hk, rfl, rfl, rfl⟩ := hrel
    by_cases hlt : k < n
    · have hki : (k : Int) < n := by omega
      have hkP : k < P.length := by rw [← HNP.out]; exact hlt
      obtain ⟨bx, ox, c', hc, hbg, hxg, hsrc⟩ := HC.out k P[k] (List.getElem?_eq_getElem hkP)
      have hstep := JP_step L P k P[k] (List.getElem?_eq_getElem hkP)
      have hsu := FP_succ P k P[k] (List.getElem?_eq_getElem hkP)
      have hle := FP_le P (k + 1)
      have hl0 := FP_le P k
      have hJ := JP_len L P k (by have := HS.out; omega)
      generalize P[k] = p at *
      rw [hsu, List.length_append] at hle
      have hc2 : (w.setRow g (bcells (JP L P k))).cell? ⟨b, o + k, none⟩ = some (.slice (some ⟨bx, ox, none⟩) p.length c') := by rw [cell_setRow_other _ _ _ _ hbg]; exact hc
      obtain ⟨m, hm⟩ : ∃ m, m = L.length - (FP P k).length := ⟨_, rfl⟩
      have hpm : p.length < m := by have := HS.out; omega
      have hrun := run_copy_row Try.prog (w.setRow g (bcells (JP L P k))) 30 30 3 5 g (FP P k).length m m ⟨bx, ox, none⟩ p.length c' (bcells (JP L P k)) t (p.map (Value.int .u8)) Try.underlying30 info5s (setRow_heap _ _ _ _ _ _ HG.out)
        (by rw [List.length_map]; exact (Nat.min_eq_left (Nat.le_of_lt hpm)).symm) (fun j u hj => by
          have hjl : j < p.length := by
            rcases Nat.lt_or_ge j p.length with h | h
            · exact h
            · simp [List.getElem?_eq_none (show (p.map (Value.int .u8)).length ≤ j by simpa using h)] at hj
          have hplain : (⟨bx, ox, none⟩ : Addr).add j = ⟨bx, ox + j, none⟩ := by unfold Addr.add; split <;> simp_all
          rw [hplain, cell_setRow_other _ _ _ _ hxg, hsrc j hjl, ← hj]
          simp [nth, List.getD, hjl]) (by rw [bcells_size, hJ]; simp; have := HS.out; omega) (by simp [Value.oneCell'])
      have hnew : (w.setRow g (bcells (JP L P k))).setRow g ((bcells (JP L P k)).toList.take (FP P k).length ++ p.map (Value.int .u8) ++ (bcells (JP L P k)).toList.drop ((FP P k).length + (p.map (Value.int .u8)).length)).toArray = w.setRow g (bcells (JP L P (k + 1))) := by
        rw [setRow_setRow, ← hstep]
        simp [bcells, List.map_take, List.map_drop]
      rw [hnew] at hrun
      have hgo : goInt (List.map (Value.int .u8) p).length = .int .i64 p.length := by simp [goInt]
      rw [hgo] at hrun
      have HR := Lib.hid hrun
      have hm1 : (p.length : Int) ≤ m := by omega
      have hm2 : ¬ m = p.length := by omega
      have hmle : (m : Int) ≤ 1000 := by have := HN.out; omega
      have HM : Hid (L.length - (FP P (k + 1)).length = m - p.length ∧ (FP P (k + 1)).length = (FP P k).length + p.length) := by
        rw [hsu]; exact ⟨by rw [List.length_append]; omega, by rw [List.length_append]⟩
      rw [← hm]
      clear hrun hnew hstep hsu hle hl0 hJ hsrc hc hgo hm
      generalize w.setRow g (bcells (JP L P k)) = wk at *
      generalize (FP P k).length = f at *
      go_wp2_with (refine wpList_copy_run rfl (.tmp 13) (.tmp 14) rfl rfl rfl rfl HR.out ?_)
      go_roundw
      case rel => exact ⟨k + 1, by omega, by go_num, by rw [HM.out.1, HM.out.2], rfl⟩
      case measure => simp [intOf]; omega
    · have hk2 : k = n := by omega
      subst hk2
      have e : JP L P k = P.flatten ++ L.drop P.flatten.length := by rw [HNP.out]; unfold JP; rw [FP_all]
      have E := Lib.hid (show w.setRow g (bcells (JP L P k)) = w.setRow g (bcells (P.flatten ++ L.drop P.flatten.length)) by rw [e])
      clear e
      generalize w.setRow g (bcells (JP L P k)) = wk at *
      generalize (FP P k).length = f at *
      go_wp2_with fail
      go_end0
      exact ⟨⟨_, rfl⟩, E.out⟩
/-- How a head's bytes begin. -/
def fr8 : List Int := [67, 77, 72, 49, 0, 0, 0, 0]
theorem front (w : World) : Calls Try.prog 33 #[] w (NewP w 8 fr8) := by
  go_enter Try.func33, Try.ntmps33
  go_wp2_with fail
  go_ret
  exact ⟨_, rfl, sees_new w _ fr8 rfl (byt_of _ rfl) (by decide) _ rfl 8 rfl, (Below.refl _ _).alloc (Nat.le_refl _) _, Nat.le_refl _⟩
end Go.Proofs.Ytplffbpnjnbolaa
