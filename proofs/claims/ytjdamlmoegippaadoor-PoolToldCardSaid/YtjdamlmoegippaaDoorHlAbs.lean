/-
  Plain words and lemmas: a hash as what it has taken in, byte by byte. No condition.
-/
import Derived.Test.YtjdamlmoegippaaDoorHlTake
namespace Go.Proofs.YtjdamlmoegippaaDoor.hl
def KK : List Int := [1116352408, 1899447441, 3049323471, 3921009573, 961987163, 1508970993, 2453635748, 2870763221, 3624381080, 310598401, 607225278, 1426881987, 1925078388, 2162078206, 2614888103, 3248222580, 3835390401, 4022224774, 264347078, 604807628, 770255983, 1249150122, 1555081692, 1996064986, 2554220882, 2821834349, 2952996808, 3210313671, 3336571891, 3584528711, 113926993, 338241895, 666307205, 773529912, 1294757372, 1396182291, 1695183700, 1986661051, 2177026350, 2456956037, 2730485921, 2820302411, 3259730800, 3345764771, 3516065817, 3600352804, 4094571909, 275423344, 430227734, 506948616, 659060556, 883997877, 958139571, 1322822218, 1537002063, 1747873779, 1955562222, 2024104815, 2227730452, 2361852424, 2428436474, 2756734187, 3204031479, 3329325298]
def BB : List Int := [97, 98, 99, 128, 0, 0, 0, 0, 0, 0, 0, 0, 0, 0, 0, 0, 0, 0, 0, 0, 0, 0, 0, 0, 0, 0, 0, 0, 0, 0, 0, 0, 0, 0, 0, 0, 0, 0, 0, 0, 0, 0, 0, 0, 0, 0, 0, 0, 0, 0, 0, 0, 0, 0, 0, 0, 0, 0, 0, 0, 0, 0, 0, 24]
end Go.Proofs.YtjdamlmoegippaaDoor.hl
namespace Go.Proofs.YtjdamlmoegippaaDoor.hl
open Go.RowKit
/-- The eight numbers at the beginning. -/
def SQ : List Int := [1779033703, 3144134277, 1013904242, 2773480762, 1359893119, 2600822924, 528734635, 1541459225]
def toSt (H : List Int) : St := ⟨nth H 0, nth H 1, nth H 2, nth H 3, nth H 4, nth H 5, nth H 6, nth H 7⟩
/-- What a block makes of the eight numbers. -/
def comp (H B : List Int) : List Int := fin H (sts KK (wl B 64) (toSt H) 64).list 8
/-- The numbers, the block, how many of its bytes are there. -/
structure HSt where
  H : List Int
  B : List Int
  n : Nat
def HSt.ok (s : HSt) : Prop := s.H.length = 8 ∧ U32 s.H ∧ s.B.length = 64 ∧ Byt s.B ∧ s.n < 64
/-- One byte more. -/
def put1 (s : HSt) (x : Int) : HSt := if s.n + 1 = 64 then ⟨comp s.H (s.B.set s.n x), s.B.set s.n x, 0⟩ else ⟨s.H, s.B.set s.n x, s.n + 1⟩
def puts (s : HSt) (xs : List Int) : HSt := xs.foldl put1 s
theorem puts_append (s : HSt) (xs ys : List Int) : puts s (xs ++ ys) = puts (puts s xs) ys := by simp [puts, List.foldl_append]
/-- A list with others in the place of some. -/
def spl (B : List Int) (o : Nat) (ys : List Int) : List Int := B.take o ++ ys ++ B.drop (o + ys.length)
theorem spl_len (B : List Int) (o : Nat) (ys : List Int) (h : o + ys.length ≤ B.length) : (spl B o ys).length = B.length := by simp [spl]; omega
theorem spl_nil (B : List Int) (o : Nat) : spl B o [] = B := by simp [spl]
theorem spl_set (B : List Int) (o : Nat) (y : Int) (ys : List Int) (h : o + (ys.length + 1) ≤ B.length) : spl (B.set o y) (o + 1) ys = spl B o (y :: ys) := by
  unfold spl
  have h1 : (B.set o y).take (o + 1) = B.take o ++ [y] := by
    rw [List.take_succ_eq_append_getElem (by simp; omega)]
    simp [List.take_set_of_le]
  have h2 : (B.set o y).drop (o + 1 + ys.length) = B.drop (o + (y :: ys).length) := by
    rw [List.drop_set_of_lt (by omega)]
    congr 1
    simp; omega
  rw [h1, h2]; simp
theorem spl_byt {B : List Int} {o : Nat} {ys : List Int} (h : Byt B) (k : Byt ys) : Byt (spl B o ys) := ((h.take o).append k).append (h.drop _)
theorem puts_chunk : ∀ (ys : List Int) (s : HSt), s.B.length = 64 → s.n < 64 → ys ≠ [] → s.n + ys.length ≤ 64 →
    puts s ys = if s.n + ys.length = 64 then ⟨comp s.H (spl s.B s.n ys), spl s.B s.n ys, 0⟩ else ⟨s.H, spl s.B s.n ys, s.n + ys.length⟩
  | [], _, _, _, h, _ => absurd rfl h
  | [y], s, hB, hn, _, hl => by
    have e : s.B.set s.n y = spl s.B s.n [y] := by rw [← spl_set _ _ _ _ (by simp; omega), spl_nil]
    show put1 s y = _
    unfold put1
    rw [e]
    rfl
  | y :: z :: r, s, hB, hn, _, hl => by
    have h1 : ¬ s.n + 1 = 64 := by simp at hl; omega
    have hp : put1 s y = ⟨s.H, s.B.set s.n y, s.n + 1⟩ := by unfold put1; rw [if_neg h1]
    have ih := puts_chunk (z :: r) ⟨s.H, s.B.set s.n y, s.n + 1⟩ (by simp [hB]) (by simp at hl ⊢; omega) (by simp) (by simp at hl ⊢; omega)
    show puts (put1 s y) (z :: r) = _
    rw [hp, ih]
    simp only
    rw [spl_set _ _ _ _ (by simp at hl ⊢; omega)]
    have e : s.n + 1 + (z :: r).length = s.n + (y :: z :: r).length := by simp; omega
    rw [e]
theorem fin_len (X Y : List Int) (n : Nat) : (fin X Y n).length = 8 := by simp [fin]
theorem comp_len (H B : List Int) : (comp H B).length = 8 := fin_len _ _ _
theorem comp_u32 (H B : List Int) : U32 (comp H B) := fun x h => by
  unfold comp fin at h
  rw [List.mem_map] at h
  obtain ⟨i, hi, rfl⟩ := h
  rw [if_pos (List.mem_range.1 hi)]
  omega
theorem put1_ok {s : HSt} {x : Int} (h : s.ok) (hx : 0 ≤ x ∧ x ≤ 255) : (put1 s x).ok := by
  obtain ⟨h1, h2, h3, h4, h5⟩ := h
  have hb : Byt (s.B.set s.n x) := fun y hy => by
    rcases List.mem_or_eq_of_mem_set hy with hy | rfl
    · exact h4 y hy
    · exact hx
  unfold put1
  by_cases e : s.n + 1 = 64
  · rw [if_pos e]; exact ⟨comp_len _ _, comp_u32 _ _, by simp [h3], hb, by show 0 < 64; omega⟩
  · rw [if_neg e]; exact ⟨h1, h2, by simp [h3], hb, by show s.n + 1 < 64; omega⟩
theorem puts_ok : ∀ (xs : List Int) (s : HSt), s.ok → Byt xs → (puts s xs).ok
  | [], s, h, _ => h
  | x :: xs, s, h, hb => puts_ok xs (put1 s x) (put1_ok h (hb x (by simp))) (fun y hy => hb y (by simp [hy]))
/-- A hash of the empty text. -/
def h0 : HSt := ⟨SQ, List.replicate 64 0, 0⟩
theorem h0_ok : h0.ok := by
  refine ⟨rfl, ?_, by simp [h0], ?_, by show 0 < 64; omega⟩
  · intro x hx
    simp only [h0, SQ, List.mem_cons, List.not_mem_nil, or_false] at hx
    omega
  · intro x hx
    simp only [h0, List.mem_replicate] at hx
    omega
/-- What is laid behind a text of so many bytes. -/
def tail (n : Nat) : List Int := (128 :: List.replicate ((119 - n % 64) % 64) 0) ++ be 8 (8 * (n : Int))
/-- The sum of what a hash took in, n bytes in all. -/
def sumOf (s : HSt) (n : Nat) : List Int := ((puts s (tail n)).H.map (be 4)).flatten
/-- A text's sum. -/
def sha (xs : List Int) : List Int := sumOf (puts h0 xs) xs.length
theorem tail_byt (n : Nat) : Byt (tail n) := by
  refine Byt.append (fun x hx => ?_) (be_byt _ _)
  simp only [List.mem_cons, List.mem_replicate] at hx
  omega
theorem flat_len : ∀ (l : List Int), ((l.map (be 4)).flatten).length = 4 * l.length
  | [] => rfl
  | x :: l => by rw [List.map_cons, List.flatten_cons, List.length_append, be_len, flat_len l]; simp; omega
theorem flat_byt : ∀ (l : List Int), Byt ((l.map (be 4)).flatten)
  | [] => fun x h => by simp at h
  | x :: l => by rw [List.map_cons, List.flatten_cons]; exact (be_byt _ _).append (flat_byt l)
theorem sumOf_len (s : HSt) (h : s.ok) (n : Nat) : (sumOf s n).length = 32 := by
  unfold sumOf; rw [flat_len, (puts_ok _ s h (tail_byt n)).1]
theorem sumOf_byt (s : HSt) (n : Nat) : Byt (sumOf s n) := flat_byt _
theorem sha_len (xs : List Int) (h : Byt xs) : (sha xs).length = 32 := sumOf_len _ (puts_ok _ _ h0_ok h) _
theorem sha_byt (xs : List Int) : Byt (sha xs) := sumOf_byt _ _
end Go.Proofs.YtjdamlmoegippaaDoor.hl
