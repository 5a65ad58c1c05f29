/-
  The contract of the document's Decode. Condition: the value reads as bytes, at most 5000.
-/
import Derived.Test.YtdohggpajhkkhaaRqAE
namespace Go.Proofs.Ytdohggpajhkkhaa
open Go.RowKit
theorem decodeD (v : Value) (xs : List Int) (hl : xs.length ≤ 5000) (w : World) (hs : Sees w v xs) : Calls Try.prog 13 #[v] w (DecS w xs) := by
  by_cases h2 : xs.length < 2
  · exact decD_a v xs w hs h2
  · obtain ⟨f, k, ys, hx⟩ : ∃ f k ys, xs = f :: k :: ys := by
      match xs, h2 with
      | f :: k :: ys, _ => exact ⟨f, k, ys, rfl⟩
      | [_], h => exact absurd (by simp) h
      | [], h => exact absurd (by simp) h
    by_cases h1 : k < 1
    · exact decD_b v xs w hs hl f k ys hx h1
    · by_cases h16 : 16 < k
      · exact decD_c v xs w hs hl f k ys hx h16
      · by_cases hf : ys.length < flen k
        · exact decD_d v xs w hs hl f k ys hx h1 h16 hf
        · exact decD_y v xs w hs hl f k ys hx h1 h16 (by omega)
end Go.Proofs.Ytdohggpajhkkhaa
