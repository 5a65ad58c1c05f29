/-
  Contracts of the functions that the statements of package aes go through: the words of a key. Condition: the numbers are bytes.
-/
import Derived.Test.YtpkeofioobmmoaaGreatDoorAeAesE
import Derived.Deep.MidRow
namespace Go.Proofs.YtpkeofioobmmoaaGreatDoor.ae
open Go.RowKit
theorem wk_get (key : List Nat) (n j : Nat) (h : j < n) : ∀ d, lat (wk key (n + d)) j = lat (wk key n) j
  | 0 => rfl
  | d + 1 => by
    rw [← wk_get key n j h d, show n + (d + 1) = (n + d) + 1 by omega, wk]
    have hl : j < (wk key (n + d)).length := by rw [wk_len]; omega
    simp [lat, List.getD, List.getElem?_append_left hl]
theorem wk_last (key : List Nat) (n : Nat) (h : n < 60) : lat (wk key 60) n = nextw key (wk key n) n := by
  have e := wk_get key (n + 1) n (by omega) (59 - n)
  rw [show n + 1 + (59 - n) = 60 by omega] at e
  rw [e, wk]
  have hl : (wk key n).length = n := wk_len key n
  simp [lat, List.getD, hl]
/-- The word n of words one behind the other. -/
def wrd (F : List Nat) (n : Nat) : List Nat := tab 4 fun k => at_ F (4 * n + k)
theorem nextw_bts4 {key : List Nat} (hk : Bts 32 key) (n : Nat) (h : n < 60) : Bts 4 (lat (wk key 60) n) := by
  rw [wk_last key n h]; exact nextw_bts hk (wk_bts hk n) n
theorem wrd_flat {key : List Nat} (hk : Bts 32 key) (n : Nat) (h : n < 60) : wrd (flat key) n = lat (wk key 60) n := by
  unfold wrd
  refine Eq.trans (tab_congr fun k hk4 => flat_at key n k h hk4) (tab_self 4 _ (nextw_bts4 hk n h).1)
theorem flat_bts {key : List Nat} (hk : Bts 32 key) : Bts 240 (flat key) := tab_bts fun _ _ => lat_lt (wk_bts hk 60) _ _
theorem flat_key {key : List Nat} (n k : Nat) (hn : n < 8) (hk4 : k < 4) : at_ (flat key) (4 * n + k) = at_ key (4 * n + k) := by
  rw [flat_at key n k (by omega) hk4, wk_last key n (by omega), nextw, if_pos hn, tab_at _ _ _ hk4]
theorem flat_next {key : List Nat} (hk : Bts 32 key) (m k : Nat) (hm : m + 8 < 60) (hk4 : k < 4) :
    at_ (flat key) (4 * (m + 8) + k) = Nat.xor (at_ (flat key) (4 * m + k)) (at_ (addw (wrd (flat key) (m + 7)) (m + 8)) k) := by
  rw [flat_at key (m + 8) k hm hk4, wk_last key (m + 8) hm, nextw, if_neg (by omega), tab_at _ _ _ hk4, wrd_flat hk _ (by omega), flat_at key m k (by omega) hk4]
  have e1 := wk_get key (m + 8) m (by omega) (52 - m)
  have e2 := wk_get key (m + 8) (m + 7) (by omega) (52 - m)
  rw [show m + 8 + (52 - m) = 60 by omega] at e1 e2
  rw [e1, e2, show m + 8 - 8 = m by omega, show m + 8 - 1 = m + 7 by omega]
theorem bts_ext' {n : Nat} {a b : List Nat} (ha : a.length = n) (hb : b.length = n) (h : ∀ i, i < n → at_ a i = at_ b i) : a = b := by
  rw [← tab_self n a ha, ← tab_self n b hb]; exact tab_congr h
/-- What stands behind n words; within the word n, behind k bytes. -/
def wo (F : List Nat) (n : Nat) : List Nat := tab 240 fun j => if j < 4 * n then at_ F j else 0
def wi (F : List Nat) (m k : Nat) : List Nat := tab 240 fun j => if j < 4 * (m + 8) + k then at_ F j else if j < 4 * (m + 8) + 4 then at_ F (j - 32) else 0
theorem wo_len (F : List Nat) (n : Nat) : (wo F n).length = 240 := tab_len _ _
theorem wi_len (F : List Nat) (n k : Nat) : (wi F n k).length = 240 := tab_len _ _
theorem wo_zero (F : List Nat) : wo F 0 = zeros 240 := by
  refine bts_ext' (wo_len F 0) (zeros_len 240) fun i hi => ?_
  rw [wo, tab_at _ _ _ hi, if_neg (by omega), zeros_at]
theorem wo_all {F : List Nat} (h : F.length = 240) : wo F 60 = F := by
  refine Eq.trans (tab_congr fun j hj => by rw [if_pos (by omega)]) (tab_self 240 F h)
theorem wi_four (F : List Nat) (m : Nat) : wi F m 4 = wo F (m + 9) := by
  refine tab_congr fun j _ => ?_
  by_cases h : j < 4 * (m + 8) + 4
  · rw [if_pos h, if_pos (by omega)]
  · rw [if_neg h, if_neg h, if_neg (by omega)]
/-- Four bytes laid into a row. -/
theorem splice4 (R ys : List Nat) (n o : Nat) (hR : R.length = n) (hy : ys.length = 4) (ho : o + 4 ≤ n) :
    ((ncells R).toList.take o ++ ys.map (fun (n : Nat) => Value.int .u8 (n : Int)) ++ (ncells R).toList.drop (o + 4)).toArray = ncells (tab n fun j => if j < o then at_ R j else if j < o + 4 then at_ ys (j - o) else at_ R j) := by
  unfold ncells
  congr 1
  rw [← List.map_take, ← List.map_drop, ← List.map_append, ← List.map_append]
  congr 1
  apply List.ext_getElem?
  intro j
  by_cases hj : j < n
  · have g : (tab n fun j => if j < o then at_ R j else if j < o + 4 then at_ ys (j - o) else at_ R j)[j]? = some (if j < o then at_ R j else if j < o + 4 then at_ ys (j - o) else at_ R j) := by simp [tab, hj]
    have hl : (List.take o R).length = o := by rw [List.length_take]; omega
    rw [g]
    by_cases h1 : j < o
    · rw [List.getElem?_append_left (by simp; omega), List.getElem?_append_left (by omega), List.getElem?_take_of_lt h1, if_pos h1]
      simp [at_, List.getD, show j < R.length by omega]
    · by_cases h2 : j < o + 4
      · rw [List.getElem?_append_left (by simp; omega), List.getElem?_append_right (by omega), if_neg h1, if_pos h2, hl]
        simp [at_, List.getD, show j - o < ys.length by omega]
      · rw [List.getElem?_append_right (by simp [hy]; omega), if_neg h1, if_neg h2]
        have hl2 : (List.take o R ++ ys).length = o + 4 := by rw [List.length_append, hl, hy]
        rw [hl2, List.getElem?_drop, show o + 4 + (j - (o + 4)) = j by omega]
        simp [at_, List.getD, show j < R.length by omega]
  · rw [List.getElem?_eq_none (by simp [hy]; omega), List.getElem?_eq_none (by rw [tab_len]; omega)]
theorem wo_key {key : List Nat} (n : Nat) (hn : n < 8) (ys : List Nat) (hy : ∀ k, k < 4 → at_ ys k = at_ key (4 * n + k)) :
    (tab 240 fun j => if j < n * 4 then at_ (wo (flat key) n) j else if j < n * 4 + 4 then at_ ys (j - n * 4) else at_ (wo (flat key) n) j) = wo (flat key) (n + 1) := by
  refine tab_congr fun j hj => ?_
  have e : at_ (wo (flat key) n) j = if j < 4 * n then at_ (flat key) j else 0 := tab_at _ _ _ hj
  rw [e]
  by_cases h1 : j < n * 4
  · rw [if_pos h1, if_pos (by omega), if_pos (by omega)]
  · by_cases h2 : j < n * 4 + 4
    · rw [if_neg h1, if_pos h2, if_pos (by omega), hy _ (by omega), ← flat_key n (j - n * 4) hn (by omega), show 4 * n + (j - n * 4) = j by omega]
    · rw [if_neg h1, if_neg h2, if_neg (by omega), if_neg (by omega)]
theorem wo_word (F : List Nat) (m : Nat) :
    (tab 240 fun j => if j < (m + 8) * 4 then at_ (wo F (m + 8)) j else if j < (m + 8) * 4 + 4 then at_ (wrd F m) (j - (m + 8) * 4) else at_ (wo F (m + 8)) j) = wi F m 0 := by
  refine tab_congr fun j hj => ?_
  have e : at_ (wo F (m + 8)) j = if j < 4 * (m + 8) then at_ F j else 0 := tab_at _ _ _ hj
  rw [e]
  by_cases h1 : j < (m + 8) * 4
  · rw [if_pos h1, if_pos (by omega), if_pos (by omega)]
  · by_cases h2 : j < (m + 8) * 4 + 4
    · rw [if_neg h1, if_pos h2, if_neg (by omega), if_pos (by omega), wrd, tab_at _ _ _ (by omega), show 4 * m + (j - (m + 8) * 4) = j - 32 by omega]
    · rw [if_neg h1, if_neg h2, if_neg (by omega), if_neg (by omega), if_neg (by omega)]
theorem wi_set (F : List Nat) (m k : Nat) (hk : k < 4) : (wi F m k).set ((m + 8) * 4 + k) (at_ F (4 * (m + 8) + k)) = wi F m (k + 1) := by
  apply List.ext_getElem
  · rw [List.length_set, wi_len, wi_len]
  · intro j h1 h2
    rw [List.getElem_set]
    simp only [wi, tab, List.getElem_map, List.getElem_range]
    by_cases e : (m + 8) * 4 + k = j
    · rw [if_pos e, if_pos (by omega)]; congr 1; omega
    · rw [if_neg e]
      by_cases c : j < 4 * (m + 8) + k
      · rw [if_pos c, if_pos (by omega)]
      · rw [if_neg c]
        by_cases d : j < 4 * (m + 8) + 4
        · rw [if_pos d, if_neg (by omega)]
        · rw [if_neg d, if_neg (by omega)]
theorem wi_at (F : List Nat) (m k : Nat) (hk : k < 4) (hm : m + 8 < 60) : at_ (wi F m k) ((m + 8) * 4 + k) = at_ F (4 * m + k) := by
  rw [wi, tab_at _ _ _ (by omega), if_neg (by omega), if_pos (by omega)]
  congr 1; omega
end Go.Proofs.YtpkeofioobmmoaaGreatDoor.ae
