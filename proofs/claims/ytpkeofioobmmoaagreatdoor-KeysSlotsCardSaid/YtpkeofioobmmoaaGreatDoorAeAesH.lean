/-
  Plain words and lemmas: AES turned back by any table; what lies in memory while a block is turned. No condition.
-/
import Derived.Test.YtpkeofioobmmoaaGreatDoorAeAesG
namespace Go.Proofs.YtpkeofioobmmoaaGreatDoor.ae
open Go.RowKit
/-- A round turned back, by the table t. -/
def dnrT (t : List Nat) (last : Bool) (rk b : List Nat) : List Nat := sb t (mv 3 (cond last (jn b rk) (mx 14 11 13 9 (jn b rk))))
def bkT (t : List Nat) (R : Nat → List Nat) (b : List Nat) : Nat → List Nat
  | 0 => b
  | n + 1 => dnrT t (decide (n = 0)) (R (14 - n)) (bkT t R b n)
def backT (t : List Nat) (R : Nat → List Nat) (b : List Nat) : List Nat := jn (bkT t R b 14) (R 0)
theorem bkT_kxs (R : Nat → List Nat) (b : List Nat) : ∀ n, bkT kxs R b n = bkn R b n
  | 0 => rfl
  | n + 1 => by rw [bkT, bkT_kxs R b n]; rfl
theorem backT_kxs (R : Nat → List Nat) (b : List Nat) : backT kxs R b = back R b := by rw [backT, bkT_kxs]; rfl
theorem bkT_bts {t : List Nat} (ht : Bts 256 t) (R : Nat → List Nat) {b : List Nat} (hb : Bts 16 b) : ∀ n, Bts 16 (bkT t R b n)
  | 0 => hb
  | _ + 1 => sb_bts ht
theorem rkf_bts {F : List Nat} (hF : Bts 240 F) (n : Nat) : Bts 16 (rkf F n) := tab_bts fun _ _ => hF.at_lt _
/-- What lies in memory while a block is turned: the block, what is handed out, the closure's factors. -/
def TS (w : World) (Z : Array Value) (f : List Nat) (W : World) (S : List Nat) : Prop :=
  W.heap[w.heap.size]? = some (.cells (ncells S) 77 (0, 0)) ∧ W.heap[w.heap.size + 1]? = some (.cells Z 77 (0, 0)) ∧
  W.heap[w.heap.size + 1 + 1]? = some (.cells (ncells f) 5 (0, 0)) ∧ W.heap[w.heap.size + 1 + 1 + 1]? = some (.cells #[.slice (some ⟨w.heap.size + 1 + 1, 0, none⟩) 4 4] 31 (0, 0)) ∧ Below w.heap.size w W
theorem TS.below {w W W' : World} {Z : Array Value} {f S : List Nat} (h : TS w Z f W S) (hb : Below W.heap.size W W') : TS w Z f W' S :=
  ⟨(hb.block _ (blk_lt h.1)).trans h.1, (hb.block _ (blk_lt h.2.1)).trans h.2.1, (hb.block _ (blk_lt h.2.2.1)).trans h.2.2.1, (hb.block _ (blk_lt h.2.2.2.1)).trans h.2.2.2.1, h.2.2.2.2.trans (hb.mono h.2.2.2.2.size)⟩
theorem TS.drew {w W : World} {Z : Array Value} {f S : List Nat} (h : TS w Z f W S) : TS w Z f W.drew S := ⟨h.1, h.2.1, h.2.2.1, h.2.2.2.1, h.2.2.2.2.drew⟩
theorem TS.store {w W : World} {Z : Array Value} {f S : List Nat} (h : TS w Z f W S) (S' : List Nat) : TS w Z f (W.setRow w.heap.size (ncells S')) S' :=
  ⟨setRow_heap _ _ _ _ _ _ h.1, by rw [setRow_other _ _ _ _ (by omega)]; exact h.2.1, by rw [setRow_other _ _ _ _ (by omega)]; exact h.2.2.1, by rw [setRow_other _ _ _ _ (by omega)]; exact h.2.2.2.1, h.2.2.2.2.trans (below_row _ _ (Nat.le_refl _))⟩
theorem TS.cap {w W : World} {Z : Array Value} {f S : List Nat} (h : TS w Z f W S) : W.cell? ⟨w.heap.size + 1 + 1 + 1, 0, none⟩ = some (.slice (some ⟨w.heap.size + 1 + 1, 0, none⟩) 4 4) :=
  (cell_of_row _ _ 0 _ _ _ h.2.2.2.1).trans rfl
theorem TS.fac {w W : World} {Z : Array Value} {f S : List Nat} (h : TS w Z f W S) (hf : f.length = 4) : ∀ k, k < 4 → W.cell? ⟨w.heap.size + 1 + 1, k, none⟩ = some (.int .u8 (at_ f k : Nat)) := fun _ hk => cell_at h.2.2.1 hf hk
theorem ns_eq {a b : List Nat} (ha : a.length = 16) (hb : b.length = 16) : (ncells a).size = (ncells b).size := by rw [nsize, nsize, ha, hb]
end Go.Proofs.YtpkeofioobmmoaaGreatDoor.ae
