/-
  Plain words and lemmas: masks of XTS doubled, sectors over lists of bytes, turned and turned back. No condition.
-/
import Derived.Test.YtpkeofioobmmoaaDoorAeAesK
namespace Go.Proofs.YtpkeofioobmmoaaDoor.ae
/-- The byte i of a mask that is doubled, without what comes back. -/
def dbe (m : List Nat) (i : Nat) : Nat := Nat.xor (at_ m i * 2 % 256) (cond (Nat.beq i 0) 0 (at_ m (i - 1) / 128))
/-- A mask doubled. -/
def dbm (m : List Nat) : List Nat := tab 16 fun i => cond (Nat.beq i 0) (Nat.xor (dbe m 0) (at_ m 15 / 128 * 135)) (dbe m i)
theorem lo_lt {x : Nat} : x * 2 % 256 < 256 := Nat.mod_lt _ (by omega)
theorem hi_lt {x : Nat} (h : x < 256) : x / 128 < 256 := by omega
theorem dbe_lt {m : List Nat} (hm : Bts 16 m) (i : Nat) : dbe m i < 256 := by
  unfold dbe
  refine xor_lt lo_lt ?_
  cases Nat.beq i 0
  · exact hi_lt (hm.at_lt _)
  · show 0 < 256; omega
theorem dbm_bts {m : List Nat} (hm : Bts 16 m) : Bts 16 (dbm m) := tab_bts fun i _ => by
  cases Nat.beq i 0
  · exact dbe_lt hm i
  · refine xor_lt (dbe_lt hm 0) ?_
    have := hm.at_lt 15
    have : at_ m 15 / 128 ≤ 1 := by omega
    have : at_ m 15 / 128 * 135 ≤ 1 * 135 := Nat.mul_le_mul_right _ this
    omega
theorem lin_lo_all : alln (fun a => alln (fun b => Nat.beq (Nat.xor a b * 2 % 256) (Nat.xor (a * 2 % 256) (b * 2 % 256))) 256) 256 = true := by decide +kernel
theorem lin_lo {a b : Nat} (ha : a < 256) (hb : b < 256) : Nat.xor a b * 2 % 256 = Nat.xor (a * 2 % 256) (b * 2 % 256) := Nat.eq_of_beq_eq_true (alln_of (alln_of lin_lo_all a ha) b hb)
theorem lin_hi_all : alln (fun a => alln (fun b => Nat.beq (Nat.xor a b / 128) (Nat.xor (a / 128) (b / 128))) 256) 256 = true := by decide +kernel
theorem lin_hi {a b : Nat} (ha : a < 256) (hb : b < 256) : Nat.xor a b / 128 = Nat.xor (a / 128) (b / 128) := Nat.eq_of_beq_eq_true (alln_of (alln_of lin_hi_all a ha) b hb)
theorem lin_fold {a b : Nat} (ha : a < 256) (hb : b < 256) : Nat.xor a b / 128 * 135 = Nat.xor (a / 128 * 135) (b / 128 * 135) := by
  rw [lin_hi ha hb]
  have h1 : a / 128 = 0 ∨ a / 128 = 1 := by omega
  have h2 : b / 128 = 0 ∨ b / 128 = 1 := by omega
  rcases h1 with e1 | e1 <;> rcases h2 with e2 | e2 <;> rw [e1, e2] <;> rfl
theorem xor4 (a b c d : Nat) : Nat.xor (Nat.xor a b) (Nat.xor c d) = Nat.xor (Nat.xor a c) (Nat.xor b d) := by
  show a ^^^ b ^^^ (c ^^^ d) = a ^^^ c ^^^ (b ^^^ d)
  ac_rfl
theorem jn_at {b k : List Nat} {i : Nat} (hi : i < 16) : at_ (jn b k) i = Nat.xor (at_ b i) (at_ k i) := tab_at _ _ _ hi
theorem dbe_jn {m n : List Nat} (hm : Bts 16 m) (hn : Bts 16 n) (i : Nat) (hi : i < 16) : dbe (jn m n) i = Nat.xor (dbe m i) (dbe n i) := by
  unfold dbe
  rw [jn_at hi, lin_lo (hm.at_lt _) (hn.at_lt _), xor4]
  congr 1
  rcases i with _ | i
  · simp only [Nat.beq_refl, cond_true]; rfl
  · show at_ (jn m n) i / 128 = Nat.xor (at_ m i / 128) (at_ n i / 128)
    rw [jn_at (by omega), lin_hi (hm.at_lt _) (hn.at_lt _)]
theorem dbm_jn {m n : List Nat} (hm : Bts 16 m) (hn : Bts 16 n) : dbm (jn m n) = jn (dbm m) (dbm n) := by
  unfold dbm
  rw [jn]
  refine tab_congr fun i hi => ?_
  rw [tab_at _ _ _ hi, tab_at _ _ _ hi]
  rcases i with _ | i
  · show Nat.xor (dbe (jn m n) 0) (at_ (jn m n) 15 / 128 * 135) = Nat.xor (Nat.xor (dbe m 0) (at_ m 15 / 128 * 135)) (Nat.xor (dbe n 0) (at_ n 15 / 128 * 135))
    rw [dbe_jn hm hn 0 (by omega), jn_at (by omega), lin_fold (hm.at_lt _) (hn.at_lt _), xor4]
  · exact dbe_jn hm hn _ hi
theorem lo_hi_all : alln (fun a => alln (fun b => cond (Nat.beq (Nat.xor (a * 2 % 256) (b / 128)) 0) (cond (Nat.beq (a % 128) 0) (Nat.beq (b / 128) 0) false) true) 256) 256 = true := by decide +kernel
theorem lo_hi {a b : Nat} (ha : a < 256) (hb : b < 256) (h : Nat.xor (a * 2 % 256) (b / 128) = 0) : a % 128 = 0 ∧ b / 128 = 0 := by
  have := alln_of (alln_of lo_hi_all a ha) b hb
  rw [h] at this
  simp only [Nat.beq_refl, cond_true] at this
  cases e : Nat.beq (a % 128) 0
  · rw [e] at this; simp at this
  · rw [e] at this
    exact ⟨Nat.eq_of_beq_eq_true e, Nat.eq_of_beq_eq_true this⟩
theorem lo_fold_all : alln (fun a => alln (fun b => cond (Nat.beq (Nat.xor (Nat.xor (a * 2 % 256) 0) (b / 128 * 135)) 0) (cond (Nat.beq (a % 128) 0) (Nat.beq (b / 128) 0) false) true) 256) 256 = true := by decide +kernel
theorem lo_fold {a b : Nat} (ha : a < 256) (hb : b < 256) (h : Nat.xor (Nat.xor (a * 2 % 256) 0) (b / 128 * 135) = 0) : a % 128 = 0 ∧ b / 128 = 0 := by
  have := alln_of (alln_of lo_fold_all a ha) b hb
  rw [h] at this
  simp only [Nat.beq_refl, cond_true] at this
  cases e : Nat.beq (a % 128) 0
  · rw [e] at this; simp at this
  · rw [e] at this
    exact ⟨Nat.eq_of_beq_eq_true e, Nat.eq_of_beq_eq_true this⟩
theorem dbm_zero {m : List Nat} (hm : Bts 16 m) (h : ∀ i, i < 16 → at_ (dbm m) i = 0) : ∀ i, i < 16 → at_ m i = 0 := by
  have top : at_ m 0 % 128 = 0 ∧ at_ m 15 / 128 = 0 := by
    have := h 0 (by omega)
    rw [dbm, tab_at _ _ _ (by omega)] at this
    exact lo_fold (hm.at_lt 0) (hm.at_lt 15) this
  have mid : ∀ i, i < 15 → at_ m (i + 1) % 128 = 0 ∧ at_ m i / 128 = 0 := fun i hi => by
    have := h (i + 1) (by omega)
    rw [dbm, tab_at _ _ _ (by omega)] at this
    exact lo_hi (hm.at_lt (i + 1)) (hm.at_lt i) this
  intro i hi
  have e1 : at_ m i % 128 = 0 := by
    rcases i with _ | i
    · exact top.1
    · exact (mid i (by omega)).1
  have e2 : at_ m i / 128 = 0 := by
    rcases Nat.lt_or_ge i 15 with h15 | h15
    · exact (mid i h15).2
    · have : i = 15 := by omega
      rw [this]; exact top.2
  omega
theorem xor_zero_eq {a b : Nat} (h : Nat.xor a b = 0) : a = b := by
  have : Nat.xor (Nat.xor a b) b = b := by rw [h]; exact zx b
  rw [xa, xx, x0] at this
  exact this
theorem bts_ext {n : Nat} {a b : List Nat} (ha : a.length = n) (hb : b.length = n) (h : ∀ i, i < n → at_ a i = at_ b i) : a = b := by
  rw [← tab_self n a ha, ← tab_self n b hb]; exact tab_congr h
theorem dbm_inj {m n : List Nat} (hm : Bts 16 m) (hn : Bts 16 n) (h : dbm m = dbm n) : m = n := by
  refine bts_ext hm.1 hn.1 fun i hi => xor_zero_eq ?_
  rw [← jn_at hi]
  refine dbm_zero (jn_bts hm hn) (fun j hj => ?_) i hi
  rw [dbm_jn hm hn, h, jn_at hj]
  exact xx _
/-- The bytes of a stamp, the least first. -/
def twk (s : Nat) : List Nat := tab 16 fun i => cond (Nat.blt i 8) (s / 2 ^ (8 * i) % 256) 0
theorem twk_bts (s : Nat) : Bts 16 (twk s) := tab_bts fun i _ => by
  cases Nat.blt i 8
  · show 0 < 256; omega
  · exact Nat.mod_lt _ (by omega)
theorem twk_inj {s t : Nat} (hs : s < 2 ^ 64) (ht : t < 2 ^ 64) (h : twk s = twk t) : s = t := by
  have e : ∀ i, i < 8 → s / 2 ^ (8 * i) % 256 = t / 2 ^ (8 * i) % 256 := fun i hi => by
    have := congrArg (fun l => at_ l i) h
    simp only [twk] at this
    rw [tab_at _ _ _ (by omega), tab_at _ _ _ (by omega)] at this
    have hb : Nat.blt i 8 = true := by simp [Nat.blt]; omega
    rw [hb] at this
    exact this
  have e0 := e 0 (by omega)
  have e1 := e 1 (by omega)
  have e2 := e 2 (by omega)
  have e3 := e 3 (by omega)
  have e4 := e 4 (by omega)
  have e5 := e 5 (by omega)
  have e6 := e 6 (by omega)
  have e7 := e 7 (by omega)
  simp only [Nat.mul_zero, Nat.pow_zero, Nat.div_one, Nat.reduceMul, Nat.reducePow] at e0 e1 e2 e3 e4 e5 e6 e7 hs ht
  omega
/-- The mask of the block k. -/
def mskn (m : List Nat) : Nat → List Nat
  | 0 => m
  | k + 1 => dbm (mskn m k)
theorem mskn_bts {m : List Nat} (hm : Bts 16 m) : ∀ k, Bts 16 (mskn m k)
  | 0 => hm
  | k + 1 => dbm_bts (mskn_bts hm k)
/-- The block k of a text. -/
def blk (b : List Nat) (k : Nat) : List Nat := tab 16 fun i => at_ b (16 * k + i)
theorem blk_bts {b : List Nat} (hb : ∀ x ∈ b, x < 256) (k : Nat) : Bts 16 (blk b k) := tab_bts fun _ _ => Bts.at_lt ⟨rfl, hb⟩ _
/-- A sector whose blocks go one way f, between masks: n blocks. -/
def sct (f : List Nat → List Nat) (m b : List Nat) : Nat → List Nat
  | 0 => []
  | k + 1 => sct f m b k ++ jn (f (jn (blk b k) (mskn m k))) (mskn m k)
theorem sct_len (f : List Nat → List Nat) (m b : List Nat) : ∀ n, (sct f m b n).length = 16 * n
  | 0 => rfl
  | n + 1 => by rw [sct, List.length_append, sct_len f m b n, jn, tab_len]; omega
theorem at_app_l {a b : List Nat} {i : Nat} (h : i < a.length) : at_ (a ++ b) i = at_ a i := by simp [at_, List.getD, List.getElem?_append_left h]
theorem at_app_r {a b : List Nat} {n i : Nat} (h : a.length = n) (hi : n ≤ i) : at_ (a ++ b) i = at_ b (i - n) := by simp [at_, List.getD, List.getElem?_append_right (show a.length ≤ i by omega), h]
theorem sct_blk (f : List Nat → List Nat) (m b : List Nat) : ∀ n k, k < n → blk (sct f m b n) k = jn (f (jn (blk b k) (mskn m k))) (mskn m k)
  | 0, k, h => absurd h (by omega)
  | n + 1, k, h => by
    rcases Nat.lt_or_ge k n with hk | hk
    · rw [← sct_blk f m b n k hk]
      refine tab_congr fun i hi => ?_
      rw [sct, at_app_l (by rw [sct_len]; omega)]
    · obtain rfl : k = n := by omega
      have hl : (jn (f (jn (blk b k) (mskn m k))) (mskn m k)).length = 16 := tab_len _ _
      refine Eq.trans (tab_congr fun i hi => ?_) (tab_self 16 _ hl)
      rw [sct, at_app_r (sct_len f m b k) (by omega), show 16 * k + i - 16 * k = i by omega]
theorem sct_bts {f : List Nat → List Nat} {m b : List Nat} (hf : ∀ x, Bts 16 x → Bts 16 (f x)) (hm : Bts 16 m) (hb : ∀ x ∈ b, x < 256) : ∀ n, ∀ x ∈ sct f m b n, x < 256
  | 0, x, h => by simp [sct] at h
  | n + 1, x, h => by
    rw [sct, List.mem_append] at h
    rcases h with h | h
    · exact sct_bts hf hm hb n x h
    · exact (jn_bts (hf _ (jn_bts (blk_bts hb n) (mskn_bts hm n))) (mskn_bts hm n)).2 x h
theorem blk_ext {a b : List Nat} {n : Nat} (ha : a.length = 16 * n) (hb : b.length = 16 * n) (h : ∀ k, k < n → blk a k = blk b k) : a = b := by
  refine bts_ext ha hb fun i hi => ?_
  have := congrArg (fun l => at_ l (i % 16)) (h (i / 16) (by omega))
  simp only [blk] at this
  rw [tab_at _ _ _ (Nat.mod_lt _ (by omega)), tab_at _ _ _ (Nat.mod_lt _ (by omega)), show 16 * (i / 16) + i % 16 = i by omega] at this
  exact this
theorem sct_back {f g : List Nat → List Nat} {m b : List Nat} {n : Nat} (hm : Bts 16 m) (hl : b.length = 16 * n) (hb : ∀ x ∈ b, x < 256) (hf : ∀ x, Bts 16 x → Bts 16 (f x)) (hgf : ∀ x, Bts 16 x → g (f x) = x) : sct g m (sct f m b n) n = b := by
  refine blk_ext (sct_len _ _ _ n) hl fun k hk => ?_
  have hM := mskn_bts hm k
  have hB := blk_bts hb k
  rw [sct_blk g m _ n k hk, sct_blk f m b n k hk, jn_jn (hf _ (jn_bts hB hM)), hgf _ (jn_bts hB hM), jn_jn hB]
theorem jn_inj {a b k : List Nat} (ha : Bts 16 a) (hb : Bts 16 b) (h : jn a k = jn b k) : a = b := by
  rw [← jn_jn (k := k) ha, h, jn_jn hb]
theorem sct_like {f g : List Nat → List Nat} {m a b : List Nat} {n k : Nat} (hm : Bts 16 m) (ha : ∀ x ∈ a, x < 256) (hb : ∀ x ∈ b, x < 256) (hf : ∀ x, Bts 16 x → Bts 16 (f x)) (hgf : ∀ x, Bts 16 x → g (f x) = x) (hk : k < n) :
    blk (sct f m a n) k = blk (sct f m b n) k ↔ blk a k = blk b k := by
  have hM := mskn_bts hm k
  have hA := blk_bts ha k
  have hB := blk_bts hb k
  rw [sct_blk f m a n k hk, sct_blk f m b n k hk]
  refine ⟨fun h => ?_, fun h => by rw [h]⟩
  have h1 := jn_inj (hf _ (jn_bts hA hM)) (hf _ (jn_bts hB hM)) h
  have h2 := congrArg g h1
  rw [hgf _ (jn_bts hA hM), hgf _ (jn_bts hB hM)] at h2
  exact jn_inj hA hB h2
end Go.Proofs.YtpkeofioobmmoaaDoor.ae
