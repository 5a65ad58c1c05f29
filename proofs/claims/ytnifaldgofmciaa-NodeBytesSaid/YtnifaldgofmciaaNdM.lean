/-
  Bytes copied into the last row of rows of the call's own; the relation of node.read's loop. Condition: the rows are values.
-/
import Derived.Test.YtnifaldgofmciaaNdL
namespace Go.Proofs.Ytnifaldgofmciaa
open Go.RowKit
open oc (Byt Sees Own be nth got rst shrt getV)
theorem add_plain (b o j : Nat) : (⟨b, o, none⟩ : Addr).add j = ⟨b, o + j, none⟩ := by unfold Addr.add; split <;> simp_all
theorem copyLast {w : World} {C : Nat} {V : Value} {i : Nat} {cs : List Value} (hcs : cs.length = i * 44) (hown : w.ownsRow C 54 44 V (i + 1) (cs ++ val (List.replicate 44 0))) {v : Value} {xs : List Int} (hs : Sees w v xs) (hl : xs.length ≤ 44) :
    ∃ gv cap w', V = .slice (some ⟨gv, 0, none⟩) (i + 1) cap ∧ (Builtin.copy_ #[27, 27] 3 #[.slice (some ⟨gv, i * 44, none⟩) 44 44, v]).run Try.prog w = .ok (.int .i64 xs.length) w' ∧
      w'.ownsRow C 54 44 V (i + 1) (cs ++ val (fix 44 xs)) ∧ w.grownBy w' (some gv) ∧ C ≤ gv := by
  obtain ⟨h0, ⟨_, h⟩ | ⟨gv, cap, cur, rfl, hC, hg, hn, hm, hsz, htk⟩⟩ := hown
  · cases h
  have h44 : (i + 1) * 44 ≤ cap * 44 := Nat.mul_le_mul_right _ hn
  have hadd : (i + 1) * 44 = i * 44 + 44 := by omega
  have split : cur.toList = cs ++ (val (List.replicate 44 0) ++ cur.toList.drop ((i + 1) * 44)) := by
    rw [← List.append_assoc, ← htk, List.take_append_drop]
  have fin : ∀ w', w' = w.setRow gv (cur.toList.take (i * 44) ++ xs.map (Value.int .u8) ++ cur.toList.drop (i * 44 + xs.length)).toArray →
      w'.ownsRow C 54 44 (.slice (some ⟨gv, 0, none⟩) (i + 1) cap) (i + 1) (cs ++ val (fix 44 xs)) ∧ w.grownBy w' (some gv) := by
    rintro w' rfl
    refine ⟨⟨?_, .inr ⟨gv, cap, _, rfl, hC, setRow_heap w gv cur _ 54 _ hg, hn, hm, ?_, ?_⟩⟩, oc.grownBy_setRow _ _ _⟩
    · rw [List.length_append, hcs]
      unfold val
      rw [List.length_map, fix_len hl]
      omega
    · simp only [List.size_toArray, List.length_append, List.length_take, List.length_drop, List.length_map, Array.length_toList]
      omega
    · have e1 : cur.toList.take (i * 44) = cs := by rw [split, ← hcs, List.take_left]
      have e2 : cur.toList.drop (i * 44 + xs.length) = (val (List.replicate 44 0)).drop xs.length ++ cur.toList.drop ((i + 1) * 44) := by
        rw [← List.drop_drop]
        have : cur.toList.drop (i * 44) = val (List.replicate 44 0) ++ cur.toList.drop ((i + 1) * 44) := by
          conv => lhs; rw [split, ← hcs, List.drop_left]
        rw [this, List.drop_append_of_le_length (by simp [val]; exact hl)]
      have e3 : xs.map (Value.int .u8) ++ (val (List.replicate 44 0)).drop xs.length = val (fix 44 xs) := by
        unfold val fix
        rw [List.map_append, ← List.map_drop, List.drop_replicate]
      rw [e1, e2, List.append_assoc, ← List.append_assoc (xs.map _), e3, ← List.append_assoc]
      have hlen : (cs ++ val (fix 44 xs)).length = (i + 1) * 44 := by
        rw [List.length_append, hcs]
        unfold val
        rw [List.length_map, fix_len hl]
        omega
      rw [← hlen]
      exact List.take_left
  have key : ∀ (a : Addr) (c : Nat), v = .slice (some a) xs.length c → (∀ j, j < xs.length → w.cell? (a.add j) = some (.int .u8 (nth xs j))) →
      (Builtin.copy_ #[27, 27] 3 #[.slice (some ⟨gv, i * 44, none⟩) 44 44, v]).run Try.prog w = .ok (.int .i64 xs.length) (w.setRow gv (cur.toList.take (i * 44) ++ xs.map (Value.int .u8) ++ cur.toList.drop (i * 44 + xs.length)).toArray) := by
    intro a c hv hc
    subst hv
    rw [run_copy_row Try.prog w 27 27 3 5 gv (i * 44) 44 44 a xs.length c cur 54 (xs.map (Value.int .u8)) Try.underlying27 oc.info5s hg (by rw [List.length_map]; exact (Nat.min_eq_left hl).symm) (fun j u hj => by
        have hjl : j < xs.length := by
          rcases Nat.lt_or_ge j xs.length with h | h
          · exact h
          · simp [List.getElem?_eq_none (show (xs.map (Value.int .u8)).length ≤ j by simpa using h)] at hj
        rw [hc j hjl, ← hj]
        simp [nth, List.getD, hjl]) (by rw [List.length_map]; omega) (by simp [Value.oneCell'])]
    simp [goInt]
  obtain ⟨h1, ⟨rfl, rfl⟩ | ⟨a, c, rfl, rfl, _⟩ | ⟨b, o, c, rfl, h3, h4, h5, h6⟩⟩ := hs
  · have hr := run_copy_nil Try.prog w 27 27 3 5 ⟨gv, i * 44, none⟩ 44 44 Try.underlying27 (by rw [oc.info5s]; rfl)
    have e : val (fix 44 []) = val (List.replicate 44 0) := by rw [show fix 44 [] = List.replicate 44 0 from rfl]
    exact ⟨gv, cap, w, rfl, hr, by rw [e]; exact ⟨h0, .inr ⟨gv, cap, cur, rfl, hC, hg, hn, hm, hsz, htk⟩⟩, oc.grownBy_refl _ _, hC⟩
  · exact ⟨gv, cap, _, rfl, key a c rfl (fun j hj => absurd hj (Nat.not_lt_zero _)), (fin _ rfl).1, (fin _ rfl).2, hC⟩
  · exact ⟨gv, cap, _, rfl, key _ c rfl (fun j hj => by
      rw [add_plain]
      exact h6 j hj), (fin _ rfl).1, (fin _ rfl).2, hC⟩
end Go.Proofs.Ytnifaldgofmciaa
