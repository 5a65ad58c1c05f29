/-
  The walks of NodeBack. Condition: the node reads as one, its kids' sectors fit, the bytes read as bytes.
-/
import Derived.Test.YtnifaldgofmciaaNdV
namespace Go.Proofs.Ytnifaldgofmciaa
open Go.RowKit
open oc (Byt Sees be nth)
theorem nB_512 {n : NV} (h : n.okP) (hr : rightB n.leaf n.ks n.vs.length n.qs.length = true) : (nB n).length = 512 := by
  unfold rightB at hr
  simp only [Bool.and_eq_true, decide_eq_true_eq] at hr
  obtain ⟨⟨_, h2, h3, h4⟩, _⟩ := hr
  refine nB_len ?_
  rw [bdB_len h n.ks.length (fun e => by rw [e, if_pos rfl] at h3; omega) (fun e => by rw [e, if_neg (by decide)] at h3; omega)]
  unfold stp
  cases hl : n.leaf with
  | true => rw [hl, if_pos rfl] at h2; rw [if_pos rfl]; omega
  | false => rw [hl, if_neg (by decide)] at h2; rw [if_neg (by decide)]; omega
theorem rightN (v : Value) (n : NV) (w : World) (hv : ND w v n) : Calls Try.prog 12 #[v] w fun e w' => e = .returned (.bool (rightB n.leaf n.ks n.vs.length n.qs.length)) ∧ Below w.heap.size w w' := by
  obtain ⟨K, V, Q, rfl, h1, h2, h3, _, _⟩ := hv
  obtain ⟨_, _, xv, cv, rfl, _⟩ := h2
  obtain ⟨_, _, xq, cq, rfl, _⟩ := h3
  exact right _ _ _ _ _ _ _ _ _ _ h1
theorem isN_parts {xs : List Int} (h : isN xs = true) : rightB (rdN xs).leaf (rdN xs).ks (rdN xs).vs.length (rdN xs).qs.length = true ∧ nB (rdN xs) = xs := by
  unfold isN at h
  simpa only [Bool.and_eq_true, decide_eq_true_eq] using h
theorem rdN_fit {xs : List Int} (h : Byt xs) : ∀ p ∈ (rdN xs).qs, 0 ≤ p.1 ∧ p.1 ≤ 4294967295 := by
  intro p hp
  have hb : Byt (begR xs).1 := nxt_byt (nxt_byt (nxt_byt (p := (xs, false)) h 1) 1) 6
  have e : (rdN xs).qs = if lfR xs = true then [] else (List.range (cntR xs).toNat).map (kidA (begR xs)) := rfl
  rw [e] at hp
  split at hp
  · cases hp
  · obtain ⟨i, _, rfl⟩ := List.mem_map.1 hp
    exact (kid_ok hb i).2
end Go.Proofs.Ytnifaldgofmciaa
