/-
  For every key and block the law AesTurns of package casematelaw05 returns true, and they read afterwards as before: each block is turned, and turned back, as the document says. Condition: none.
-/
import Derived.Test.YtpkeofioobmmoaaGreatDoorAeRefG
import Derived.Test.YtpkeofioobmmoaaGreatDoorAeAesAl
import Derived.Deep.DeepCutAuto
namespace Go.Proofs.YtpkeofioobmmoaaGreatDoor.ae.aesTurns
open Go.ChangeShapes Go.WideShapes Go.ChangeAt Go.RowKit
set_option maxRecDepth 100000 in
theorem bkn_congr {R R' : Nat → List Nat} (b : List Nat) (h : ∀ i, i ≤ 14 → R i = R' i) : ∀ n, n ≤ 14 → bkn R b n = bkn R' b n
  | 0, _ => rfl
  | n + 1, hn => by rw [bkn, bkn, h (14 - n) (by omega), bkn_congr b h n (by omega)]
set_option maxRecDepth 100000 in
theorem back_flat (key b : List Nat) : back (rkf (flat key)) b = back (rkey key) b := by
  unfold back
  rw [bkn_congr b (fun i hi => rkf_flat key i hi) 14 (by omega), rkf_flat key 0 (by omega)]
end Go.Proofs.YtpkeofioobmmoaaGreatDoor.ae.aesTurns
