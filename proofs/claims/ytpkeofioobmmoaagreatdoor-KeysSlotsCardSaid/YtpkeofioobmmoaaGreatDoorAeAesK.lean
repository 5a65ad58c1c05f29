/-
  Plain words: the words of a key of AES; what the fixed key and block of the statements come to. No condition.
-/
import Derived.Test.YtpkeofioobmmoaaGreatDoorAeAesM
namespace Go.Proofs.YtpkeofioobmmoaaGreatDoor.ae
/-- What is xor'ed into the word of that number, of the word ahead of it. -/
def addw (a : List Nat) (n : Nat) : List Nat :=
  if n % 8 = 0 then [Nat.xor (box (at_ a 1)) (npow 2 (n / 8 - 1)), box (at_ a 2), box (at_ a 3), box (at_ a 0)] else if n % 8 = 4 then [box (at_ a 0), box (at_ a 1), box (at_ a 2), box (at_ a 3)] else a
def lat (l : List (List Nat)) (i : Nat) : List Nat := l.getD i []
/-- The next word. -/
def nextw (key : List Nat) (l : List (List Nat)) (n : Nat) : List Nat :=
  if n < 8 then tab 4 fun i => at_ key (4 * n + i) else tab 4 fun i => Nat.xor (at_ (lat l (n - 8)) i) (at_ (addw (lat l (n - 1)) n) i)
/-- The first n words. -/
def wk (key : List Nat) : Nat → List (List Nat)
  | 0 => []
  | n + 1 => wk key n ++ [nextw key (wk key n) n]
theorem wk_len (key : List Nat) : ∀ n, (wk key n).length = n
  | 0 => rfl
  | n + 1 => by rw [wk, List.length_append, wk_len key n]; rfl
theorem lat_lt {l : List (List Nat)} (h : ∀ x ∈ l, Bts 4 x) (i k : Nat) : at_ (lat l i) k < 256 := by
  unfold lat
  by_cases hi : i < l.length
  · have e : l.getD i [] = l[i] := by simp [List.getD, hi]
    rw [e]; exact (h _ (List.getElem_mem hi)).at_lt k
  · have e : l.getD i [] = [] := by simp [List.getD, List.getElem?_eq_none (show l.length ≤ i by omega)]
    rw [e]; simp [at_]
theorem addw_lt {a : List Nat} (h : ∀ k, at_ a k < 256) (n k : Nat) : at_ (addw a n) k < 256 := by
  have b : ∀ k, box (at_ a k) < 256 := fun k => box_lt (h k)
  have four : ∀ p q r s : Nat, p < 256 → q < 256 → r < 256 → s < 256 → at_ [p, q, r, s] k < 256 := fun p q r s hp hq hr hs => by
    rcases k with _ | _ | _ | _ | k <;> simp [at_, hp, hq, hr, hs]
  unfold addw
  split
  · exact four _ _ _ _ (xor_lt (b 1) (npow_lt (by omega) _)) (b 2) (b 3) (b 0)
  · split
    · exact four _ _ _ _ (b 0) (b 1) (b 2) (b 3)
    · exact h k
theorem nextw_bts {key : List Nat} (hk : Bts 32 key) {l : List (List Nat)} (h : ∀ x ∈ l, Bts 4 x) (n : Nat) : Bts 4 (nextw key l n) := by
  unfold nextw
  split
  · exact tab_bts fun i _ => hk.at_lt _
  · exact tab_bts fun i _ => xor_lt (lat_lt h _ _) (addw_lt (lat_lt h _) _ _)
theorem wk_bts {key : List Nat} (hk : Bts 32 key) : ∀ n, ∀ x ∈ wk key n, Bts 4 x
  | 0, x, h => by simp [wk] at h
  | n + 1, x, h => by
    rw [wk, List.mem_append, List.mem_singleton] at h
    rcases h with h | rfl
    · exact wk_bts hk n x h
    · exact nextw_bts hk (wk_bts hk n) n
/-- The round key of that number. -/
def rkey (key : List Nat) (r : Nat) : List Nat := tab 16 fun i => at_ (lat (wk key 60) (4 * r + i / 4)) (i % 4)
theorem rkey_bts {key : List Nat} (hk : Bts 32 key) (r : Nat) : Bts 16 (rkey key r) := tab_bts fun _ _ => lat_lt (wk_bts hk 60) _ _
end Go.Proofs.YtpkeofioobmmoaaGreatDoor.ae
