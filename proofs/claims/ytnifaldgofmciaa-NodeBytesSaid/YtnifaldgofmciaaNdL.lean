/-
  Bounds of what bytes tell; what node.read is to give. Condition: the bytes are bytes.
-/
import Derived.Test.YtnifaldgofmciaaOcV
namespace Go.Proofs.Ytnifaldgofmciaa
open Go.RowKit
open oc (Byt Sees Own be nth got rst shrt getV)
/-- A slice whose block is none of those below g. -/
def fresh (g : Nat) (v : Value) : Prop := ∀ b, v.ownBlock = some b → g ≤ b
/-- A node whose lists lie in none of these. -/
def freshN (g : Nat) (v : Value) : Prop := ∀ b K V Q, v = .agg #[.bool b, K, V, Q] → fresh g K ∧ fresh g V ∧ fresh g Q
theorem freshN_mk {g : Nat} {b : Bool} {K V Q : Value} (h1 : fresh g K) (h2 : fresh g V) (h3 : fresh g Q) : freshN g (.agg #[.bool b, K, V, Q]) := by
  intro b' K' V' Q' e
  simp only [Value.agg.injEq, Array.mk.injEq, List.cons.injEq, Value.bool.injEq, and_true] at e
  obtain ⟨_, rfl, rfl, rfl⟩ := e
  exact ⟨h1, h2, h3⟩
theorem freshN_le {g k : Nat} {v : Value} (h : freshN g v) (hk : k ≤ g) : freshN k v := fun b K V Q e =>
  have h := h b K V Q e
  ⟨fun b e => Nat.le_trans hk (h.1 b e), fun b e => Nat.le_trans hk (h.2.1 b e), fun b e => Nat.le_trans hk (h.2.2 b e)⟩
theorem fresh_own {w : World} {C e s n g : Nat} {v : Value} {cs : List Value} (h : w.ownsRow C e s v n cs) (hg : g ≤ C) : fresh g v := fun b e => Nat.le_trans hg (h.lt b e).1
theorem fresh_nil (g : Nat) : fresh g (.slice none 0 0) := fun b e => by cases e
def ReadNP (w : World) (xs : List Int) (e : Ending) (w' : World) : Prop := ∃ v, e = .returned v ∧ ND w' v (rdN xs) ∧ (∀ p ∈ (rdN xs).qs, 0 ≤ p.1 ∧ p.1 ≤ 4294967295) ∧ freshN w.heap.size v ∧ Below w.heap.size w w'
theorem nxt_byt {p : RS} (h : Byt p.1) (n : Int) : Byt (nxt p n).1 := by
  show Byt (rst p.1 p.2 n)
  unfold rst
  split
  · exact h
  · exact h.drop _
theorem nxt_len (p : RS) (n : Int) : (nxt p n).1.length ≤ p.1.length := by
  show (rst p.1 p.2 n).length ≤ _
  unfold rst
  split
  · exact Nat.le_refl _
  · rw [List.length_drop]; omega
theorem stA_byt {lf : Bool} {p : RS} (h : Byt p.1) : ∀ i, Byt (stA lf p i).1
  | 0 => h
  | i + 1 => by
    unfold stA
    split
    · exact nxt_byt (nxt_byt (stA_byt h i) _) _
    · exact nxt_byt (nxt_byt (nxt_byt (stA_byt h i) _) _) _
theorem stA_len {lf : Bool} {p : RS} : ∀ i, (stA lf p i).1.length ≤ p.1.length
  | 0 => Nat.le_refl _
  | i + 1 => by
    unfold stA
    split
    · exact Nat.le_trans (nxt_len _ _) (Nat.le_trans (nxt_len _ _) (stA_len i))
    · exact Nat.le_trans (nxt_len _ _) (Nat.le_trans (nxt_len _ _) (Nat.le_trans (nxt_len _ _) (stA_len i)))
theorem gv_bound {p : RS} (h : Byt p.1) (n : Nat) (m : Int) (hm : m = n) : 0 ≤ getV (gt p m) 0 n ∧ getV (gt p m) 0 n < 256 ^ n := by
  subst hm
  have hb : Byt (gt p n) := oc.got_byt h _ _
  unfold getV
  rw [if_neg (by omega)]
  split
  · exact ⟨by omega, Int.pow_pos (by decide)⟩
  · exact oc.numI_part (gt p n) 0 n hb (by omega)
theorem key_bound {lf : Bool} {p : RS} (h : Byt p.1) (i : Nat) : 0 ≤ keyA lf p i ∧ keyA lf p i ≤ 18446744073709551615 := by
  have := gv_bound (stA_byt (lf := lf) h i) 8 8 rfl
  unfold keyA
  have e : (256 : Int) ^ 8 = 18446744073709551616 := by decide
  omega
theorem fix_len {n : Nat} {xs : List Int} (h : xs.length ≤ n) : (fix n xs).length = n := by simp [fix]; omega
theorem fix_byt {n : Nat} {xs : List Int} (h : Byt xs) : Byt (fix n xs) := h.append (oc.byt_zero _)
theorem gt_len {p : RS} (n : Nat) (m : Int) (hm : m = n) : (gt p m).length ≤ n := by
  subst hm
  show (got p.1 p.2 n).length ≤ n
  unfold got
  split
  · simp
  · simp; omega
theorem val_ok {p : RS} (h : Byt p.1) (i : Nat) : (∀ x ∈ valA p i, 0 ≤ x ∧ x ≤ 255) ∧ (valA p i).length = 44 :=
  ⟨fix_byt (oc.got_byt (nxt_byt (stA_byt h i) _) _ _), fix_len (gt_len 44 44 rfl)⟩
theorem kid_ok {p : RS} (h : Byt p.1) (i : Nat) : ((∀ x ∈ (kidA p i).2, 0 ≤ x ∧ x ≤ 255) ∧ (kidA p i).2.length = 32) ∧ 0 ≤ (kidA p i).1 ∧ (kidA p i).1 ≤ 4294967295 := by
  have := gv_bound (nxt_byt (stA_byt (lf := false) h i) 8) 4 4 rfl
  have e : (256 : Int) ^ 4 = 4294967296 := by decide
  refine ⟨⟨fix_byt (oc.got_byt (nxt_byt (nxt_byt (stA_byt h i) _) _) _ _), fix_len (gt_len 32 32 rfl)⟩, ?_⟩
  unfold kidA
  exact ⟨this.1, by have := this.2; omega⟩
end Go.Proofs.Ytnifaldgofmciaa
