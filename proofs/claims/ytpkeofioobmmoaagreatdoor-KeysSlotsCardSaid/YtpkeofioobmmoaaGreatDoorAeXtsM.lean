/-
  Plain words and lemmas: masks of XTS doubled, sectors over lists of bytes, turned and turned back. No condition.
-/
import Derived.Test.YtpkeofioobmmoaaGreatDoorAeAesK
namespace Go.Proofs.YtpkeofioobmmoaaGreatDoor.ae
theorem bts_ext {n : Nat} {a b : List Nat} (ha : a.length = n) (hb : b.length = n) (h : ∀ i, i < n → at_ a i = at_ b i) : a = b := by
  rw [← tab_self n a ha, ← tab_self n b hb]; exact tab_congr h
theorem at_app_l {a b : List Nat} {i : Nat} (h : i < a.length) : at_ (a ++ b) i = at_ a i := by simp [at_, List.getD, List.getElem?_append_left h]
theorem at_app_r {a b : List Nat} {n i : Nat} (h : a.length = n) (hi : n ≤ i) : at_ (a ++ b) i = at_ b (i - n) := by simp [at_, List.getD, List.getElem?_append_right (show a.length ≤ i by omega), h]
end Go.Proofs.YtpkeofioobmmoaaGreatDoor.ae
