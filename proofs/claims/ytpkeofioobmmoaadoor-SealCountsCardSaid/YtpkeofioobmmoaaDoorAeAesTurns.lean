/-
  For every key and block the law AesTurns of package casematelaw05 returns true, and they read afterwards as before: each block is turned, and turned back, as the document says. Condition: none.
-/
import Derived.Test.YtpkeofioobmmoaaDoorAeRefG
import Derived.Test.YtpkeofioobmmoaaDoorAeAesAl
import Derived.Deep.DeepCutAuto
namespace Go.Proofs.YtpkeofioobmmoaaDoor.ae.aesTurns
open Go.ChangeShapes Go.WideShapes Go.ChangeAt Go.RowKit
set_option maxRecDepth 100000 in
theorem bkn_congr {R R' : Nat → List Nat} (b : List Nat) (h : ∀ i, i ≤ 14 → R i = R' i) : ∀ n, n ≤ 14 → bkn R b n = bkn R' b n
  | 0, _ => rfl
  | n + 1, hn => by rw [bkn, bkn, h (14 - n) (by omega), bkn_congr b h n (by omega)]
set_option maxRecDepth 100000 in
theorem back_flat (key b : List Nat) : back (rkf (flat key)) b = back (rkey key) b := by
  unfold back
  rw [bkn_congr b (fun i hi => rkf_flat key i hi) 14 (by omega), rkf_flat key 0 (by omega)]
set_option maxRecDepth 100000 in
theorem at_zeros (n i : Nat) : at_ (zeros n) i = 0 := by
  unfold at_ zeros
  simp [List.getD, List.getElem?_replicate]
  split <;> rfl
set_option maxRecDepth 100000 in
theorem bts_zeros (n : Nat) : Bts n (zeros n) := bts_of (zeros_len n) (fun i _ => by rw [at_zeros]; omega)
set_option maxRecDepth 100000 in
theorem sb_zeros (X : List Nat) : sb (zeros 256) X = zeros 16 := by
  unfold sb
  have : (fun i => at_ (zeros 256) (at_ X i)) = fun _ => 0 := funext fun i => at_zeros _ _
  rw [this]; rfl
set_option maxRecDepth 100000 in
theorem back_zeros (b : List Nat) : backT (zeros 256) (rkf (zeros 240)) b = zeros 16 := by
  unfold backT
  have e : bkT (zeros 256) (rkf (zeros 240)) b 14 = zeros 16 := sb_zeros _
  rw [e]
  decide +kernel
end Go.Proofs.YtpkeofioobmmoaaDoor.ae.aesTurns
