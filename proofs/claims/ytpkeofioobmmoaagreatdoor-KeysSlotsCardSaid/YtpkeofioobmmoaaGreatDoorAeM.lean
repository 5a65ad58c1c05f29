/-
  Plain lemmas on bytes as polynomials: the product as it is reckoned digit by digit, and what follows; inverses, boxes. No condition.
-/
namespace Go.Proofs.YtpkeofioobmmoaaGreatDoor.ae

/-- Times the first power. -/
def dbl (a : Nat) : Nat := cond (Nat.ble 128 a) (Nat.xor (2 * a - 256) 27) (2 * a)
/-- So many digits of b from the least on: a's doubles are added where there is a digit. -/
def mulg : Nat → Nat → Nat → Nat → Nat
  | 0, _, _, out => out
  | f + 1, a, b, out => mulg f (dbl a) (b / 2) (cond (Nat.beq (b % 2) 1) (Nat.xor out a) out)
/-- The product. -/
def mul (a b : Nat) : Nat := mulg 8 a b 0

theorem ble_no {a : Nat} (c : ¬ 128 ≤ a) : Nat.ble 128 a = false := by
  cases e : Nat.ble 128 a
  · rfl
  · exact absurd (Nat.le_of_ble_eq_true e) c
theorem dbl_lt {a : Nat} (h : a < 256) : dbl a < 256 := by
  unfold dbl
  by_cases c : 128 ≤ a
  · rw [Nat.ble_eq_true_of_le c]; exact Nat.xor_lt_two_pow (n := 8) (by omega) (by omega)
  · rw [ble_no c]; show 2 * a < 256; omega
theorem xor_lt {a b : Nat} (h : a < 256) (k : b < 256) : Nat.xor a b < 256 := Nat.xor_lt_two_pow (n := 8) h k
theorem xa (a b c : Nat) : Nat.xor (Nat.xor a b) c = Nat.xor a (Nat.xor b c) := Nat.xor_assoc a b c
theorem xc (a b : Nat) : Nat.xor a b = Nat.xor b a := Nat.xor_comm a b
theorem x0 (a : Nat) : Nat.xor a 0 = a := Nat.xor_zero a
theorem zx (a : Nat) : Nat.xor 0 a = a := Nat.zero_xor a
theorem xx (a : Nat) : Nat.xor a a = 0 := Nat.xor_self a
/-- All below n. -/
def alln (p : Nat → Bool) : Nat → Bool
  | 0 => true
  | n + 1 => cond (p n) (alln p n) false
theorem alln_of {p : Nat → Bool} : ∀ {n : Nat}, alln p n = true → ∀ i, i < n → p i = true
  | 0, _, i, h => by omega
  | n + 1, h, i, hi => by
    unfold alln at h
    cases hp : p n
    · rw [hp] at h; simp at h
    · rw [hp] at h
      by_cases e : i = n
      · subst e; exact hp
      · exact alln_of h i (by omega)
theorem dbl_xor_all : alln (fun a => alln (fun b => Nat.beq (dbl (Nat.xor a b)) (Nat.xor (dbl a) (dbl b))) 256) 256 = true := by decide +kernel
theorem dbl_xor {a b : Nat} (h : a < 256) (k : b < 256) : dbl (Nat.xor a b) = Nat.xor (dbl a) (dbl b) :=
  Nat.eq_of_beq_eq_true (alln_of (alln_of dbl_xor_all a h) b k)

theorem mulg_out : ∀ (f a b out : Nat), mulg f a b out = Nat.xor out (mulg f a b 0)
  | 0, a, b, out => (x0 out).symm
  | f + 1, a, b, out => by
    show mulg f _ _ _ = Nat.xor out (mulg f _ _ _)
    cases hb : Nat.beq (b % 2) 1
    · show mulg f (dbl a) (b / 2) out = Nat.xor out (mulg f (dbl a) (b / 2) 0)
      exact mulg_out f _ _ out
    · show mulg f (dbl a) (b / 2) (Nat.xor out a) = Nat.xor out (mulg f (dbl a) (b / 2) (Nat.xor 0 a))
      rw [mulg_out f _ _ (Nat.xor out a), mulg_out f _ _ (Nat.xor 0 a), zx, xa]
theorem mulg_lt : ∀ (f a b out : Nat), a < 256 → out < 256 → mulg f a b out < 256
  | 0, a, b, out, _, h => h
  | f + 1, a, b, out, ha, h => by
    show mulg f _ _ _ < 256
    cases hb : Nat.beq (b % 2) 1
    · exact mulg_lt f _ _ _ (dbl_lt ha) h
    · exact mulg_lt f _ _ _ (dbl_lt ha) (xor_lt h ha)
theorem mulg_dbl : ∀ (f a b : Nat), a < 256 → mulg f (dbl a) b 0 = dbl (mulg f a b 0)
  | 0, a, b, _ => rfl
  | f + 1, a, b, ha => by
    show mulg f _ _ _ = dbl (mulg f _ _ _)
    cases hb : Nat.beq (b % 2) 1
    · exact mulg_dbl f (dbl a) (b / 2) (dbl_lt ha)
    · show mulg f (dbl (dbl a)) (b / 2) (Nat.xor 0 (dbl a)) = dbl (mulg f (dbl a) (b / 2) (Nat.xor 0 a))
      rw [mulg_out f _ _ (Nat.xor 0 (dbl a)), mulg_out f _ _ (Nat.xor 0 a), zx, zx, mulg_dbl f _ _ (dbl_lt ha), dbl_xor ha (mulg_lt f _ _ _ (dbl_lt ha) (by omega))]
theorem mulg_zero : ∀ (f a : Nat), mulg f a 0 0 = 0
  | 0, _ => rfl
  | f + 1, a => mulg_zero f (dbl a)
theorem mulg_z (f a out : Nat) : mulg f a 0 out = out := by rw [mulg_out, mulg_zero, x0]
/-- Digits that are not there add nothing. -/
theorem mulg_more : ∀ (f a b : Nat), b < 2 ^ f → mulg (f + 1) a b 0 = mulg f a b 0
  | 0, a, b, h => by
    have : b = 0 := by omega
    subst this
    rw [mulg_zero]; rfl
  | f + 1, a, b, h => by
    show mulg (f + 1) (dbl a) (b / 2) _ = mulg f (dbl a) (b / 2) _
    rw [mulg_out (f + 1), mulg_out f, mulg_more f (dbl a) (b / 2) (by rw [Nat.pow_succ] at h; omega)]
theorem mul_lt {a : Nat} (b : Nat) (h : a < 256) : mul a b < 256 := mulg_lt 8 a b 0 h (by omega)
theorem mul_zero (a : Nat) : mul a 0 = 0 := mulg_zero 8 a
/-- One digit, and the rest doubled. -/
theorem mul_half {a b : Nat} (h : a < 256) (k : b < 256) : mul a b = Nat.xor (cond (Nat.beq (b % 2) 1) a 0) (dbl (mul a (b / 2))) := by
  have e : mul a b = mulg 7 (dbl a) (b / 2) (cond (Nat.beq (b % 2) 1) (Nat.xor 0 a) 0) := rfl
  rw [e, mulg_out, mulg_dbl 7 a (b / 2) h, ← mulg_more 7 a (b / 2) (by omega), zx]
  rfl
theorem mul_dbl {a : Nat} (b : Nat) (h : a < 256) : mul (dbl a) b = dbl (mul a b) := mulg_dbl 8 a b h
theorem mul_one {a : Nat} (h : a < 256) : mul a 1 = a := by
  rw [mul_half h (by omega)]
  show Nat.xor a (dbl (mul a 0)) = a
  rw [mul_zero]; exact x0 a
theorem one_mul_all : alln (fun a => Nat.beq (mul 1 a) a) 256 = true := by decide +kernel
theorem one_mul {a : Nat} (h : a < 256) : mul 1 a = a := Nat.eq_of_beq_eq_true (alln_of one_mul_all a h)
theorem zero_mul_all : alln (fun a => Nat.beq (mul 0 a) 0) 256 = true := by decide +kernel
theorem zero_mul {a : Nat} (h : a < 256) : mul 0 a = 0 := Nat.eq_of_beq_eq_true (alln_of zero_mul_all a h)
theorem mulg_xor : ∀ (f a c b : Nat), a < 256 → c < 256 → mulg f (Nat.xor a c) b 0 = Nat.xor (mulg f a b 0) (mulg f c b 0)
  | 0, a, c, b, _, _ => (xx 0).symm
  | f + 1, a, c, b, ha, hc => by
    show mulg f _ _ _ = Nat.xor (mulg f _ _ _) (mulg f _ _ _)
    have ih := mulg_xor f (dbl a) (dbl c) (b / 2) (dbl_lt ha) (dbl_lt hc)
    rw [dbl_xor ha hc]
    cases hb : Nat.beq (b % 2) 1
    · exact ih
    · show mulg f (Nat.xor (dbl a) (dbl c)) (b / 2) (Nat.xor 0 (Nat.xor a c)) = Nat.xor (mulg f (dbl a) (b / 2) (Nat.xor 0 a)) (mulg f (dbl c) (b / 2) (Nat.xor 0 c))
      rw [mulg_out f _ _ (Nat.xor 0 _), mulg_out f (dbl a) _ (Nat.xor 0 _), mulg_out f (dbl c) _ (Nat.xor 0 _), ih, zx, zx, zx]
      generalize mulg f (dbl a) (b / 2) 0 = p
      generalize mulg f (dbl c) (b / 2) 0 = q
      rw [xa, xa, ← xa c p q, xc c p, xa p c q]
theorem xor_mul {a c : Nat} (b : Nat) (h : a < 256) (k : c < 256) : mul (Nat.xor a c) b = Nat.xor (mul a b) (mul c b) := mulg_xor 8 a c b h k
theorem dbl_half {b : Nat} (h : b < 128) : dbl b = 2 * b := by
  unfold dbl; rw [ble_no (by omega)]; rfl
theorem split_all : alln (fun b => Nat.beq b (Nat.xor (cond (Nat.beq (b % 2) 1) 1 0) (2 * (b / 2)))) 256 = true := by decide +kernel
/-- The order is of no matter. -/
theorem mul_comm : ∀ (n a b : Nat), b < n → a < 256 → b < 256 → mul a b = mul b a
  | 0, a, b, hn, _, _ => by omega
  | n + 1, a, b, hn, ha, hb => by
    by_cases h0 : b = 0
    · subst h0; rw [mul_zero, zero_mul ha]
    · have ih := mul_comm n a (b / 2) (by omega) ha (by omega)
      have sp : b = Nat.xor (cond (Nat.beq (b % 2) 1) 1 0) (dbl (b / 2)) := by
        rw [dbl_half (by omega)]; exact Nat.eq_of_beq_eq_true (alln_of split_all b hb)
      have hc : cond (Nat.beq (b % 2) 1) 1 0 < 256 := by cases Nat.beq (b % 2) 1 <;> decide
      rw [mul_half ha hb]
      conv => rhs; rw [sp]
      rw [xor_mul a hc (dbl_lt (by omega)), mul_dbl a (by omega), ← ih]
      cases Nat.beq (b % 2) 1
      · show Nat.xor 0 _ = Nat.xor (mul 0 a) _
        rw [zero_mul ha]
      · show Nat.xor a _ = Nat.xor (mul 1 a) _
        rw [one_mul ha]
theorem comm {a b : Nat} (ha : a < 256) (hb : b < 256) : mul a b = mul b a := mul_comm (b + 1) a b (by omega) ha hb
theorem mul_xor {a b c : Nat} (ha : a < 256) (hb : b < 256) (hc : c < 256) : mul a (Nat.xor b c) = Nat.xor (mul a b) (mul a c) := by
  rw [comm ha (xor_lt hb hc), xor_mul a hb hc, comm hb ha, comm hc ha]
theorem cond_lt {b : Nat} (c : Bool) (h : b < 256) : cond c b 0 < 256 := by
  cases c
  · exact Nat.zero_lt_succ _
  · exact h
/-- How products are put together is of no matter. -/
theorem mul_assoc' : ∀ (n a b c : Nat), c < n → a < 256 → b < 256 → c < 256 → mul (mul a b) c = mul a (mul b c)
  | 0, a, b, c, hn, _, _, _ => by omega
  | n + 1, a, b, c, hn, ha, hb, hc => by
    by_cases h0 : c = 0
    · subst h0; rw [mul_zero, mul_zero, mul_zero]
    · have ih := mul_assoc' n a b (c / 2) (by omega) ha hb (by omega)
      have hbc := mul_lt (c / 2) hb
      rw [mul_half (mul_lt b ha) hc, ih, mul_half hb hc, mul_xor ha (cond_lt _ hb) (dbl_lt hbc), comm ha (dbl_lt hbc), mul_dbl a hbc, comm hbc ha]
      cases Nat.beq (c % 2) 1
      · show Nat.xor 0 _ = Nat.xor (mul a 0) _
        rw [mul_zero]
      · rfl
theorem assoc {a b c : Nat} (ha : a < 256) (hb : b < 256) (hc : c < 256) : mul (mul a b) c = mul a (mul b c) := mul_assoc' (c + 1) a b c (by omega) ha hb hc

/-- Powers, one by one. -/
def npow (a : Nat) : Nat → Nat
  | 0 => 1
  | n + 1 => mul (npow a n) a
theorem npow_lt {a : Nat} (h : a < 256) : ∀ n, npow a n < 256
  | 0 => by show 1 < 256; omega
  | n + 1 => mul_lt a (npow_lt h n)
/-- Powers by digits. -/
def powg : Nat → Nat → Nat → Nat → Nat
  | 0, _, _, out => out
  | f + 1, a, n, out => powg f (mul a a) (n / 2) (cond (Nat.beq (n % 2) 1) (mul out a) out)
theorem npow_two {a : Nat} (h : a < 256) : ∀ n, npow (mul a a) n = npow a (2 * n)
  | 0 => rfl
  | n + 1 => by
    show mul (npow (mul a a) n) (mul a a) = mul (mul (npow a (2 * n)) a) a
    rw [npow_two h n, assoc (npow_lt h _) h h]
theorem npow_succ' {a : Nat} (h : a < 256) : ∀ n, mul a (npow a n) = npow a (n + 1)
  | 0 => by show mul a 1 = mul 1 a; rw [mul_one h, one_mul h]
  | n + 1 => by
    show mul a (mul (npow a n) a) = mul (npow a (n + 1)) a
    rw [← assoc h (npow_lt h n) h, npow_succ' h n]
/-- What is left to be multiplied stays. -/
theorem pow_step {a n out : Nat} (ha : a < 256) (ho : out < 256) : mul (cond (Nat.beq (n % 2) 1) (mul out a) out) (npow (mul a a) (n / 2)) = mul out (npow a n) := by
  rw [npow_two ha]
  cases hb : Nat.beq (n % 2) 1
  · have : n % 2 ≠ 1 := fun e => by rw [e] at hb; exact absurd hb (by decide)
    show mul out _ = _
    rw [show 2 * (n / 2) = n by omega]
  · have : n % 2 = 1 := Nat.eq_of_beq_eq_true hb
    show mul (mul out a) _ = _
    rw [assoc ho ha (npow_lt ha _), npow_succ' ha, show 2 * (n / 2) + 1 = n by omega]
theorem powg_eq : ∀ (f a n out : Nat), a < 256 → out < 256 → n < 2 ^ f → powg f a n out = mul out (npow a n)
  | 0, a, n, out, _, ho, hn => by
    have : n = 0 := by omega
    subst this
    exact (mul_one ho).symm
  | f + 1, a, n, out, ha, ho, hn => by
    show powg f _ _ _ = _
    rw [powg_eq f _ _ _ (mul_lt a ha) (by cases Nat.beq (n % 2) 1 <;> first | exact ho | exact mul_lt a ho) (by rw [Nat.pow_succ] at hn; omega)]
    exact pow_step ha ho
/-- The inverse, reckoned. -/
def inv (a : Nat) : Nat := powg 8 a 254 1
theorem inv_pow {a : Nat} (h : a < 256) : inv a = npow a 254 := by
  have hp := npow_lt h 254
  unfold inv; rw [powg_eq 8 a 254 1 h (by decide) (by decide), one_mul hp]
theorem inv_all : alln (fun a => cond (Nat.beq a 0) (Nat.beq (inv a) 0) (cond (Nat.beq (mul a (inv a)) 1) (cond (Nat.beq (inv (inv a)) a) (Nat.blt (inv a) 256) false) false)) 256 = true := by decide +kernel
theorem inv_zero : inv 0 = 0 := by decide +kernel
theorem inv_of {a : Nat} (h : a < 256) (h0 : a ≠ 0) : mul a (inv a) = 1 ∧ inv (inv a) = a := by
  have := alln_of inv_all a h
  have hz : Nat.beq a 0 = false := by cases e : Nat.beq a 0 <;> first | rfl | exact absurd (Nat.eq_of_beq_eq_true e) h0
  simp only [hz, cond_false] at this
  cases e1 : Nat.beq (mul a (inv a)) 1
  · rw [e1] at this; simp at this
  · rw [e1, cond_true] at this
    cases e2 : Nat.beq (inv (inv a)) a
    · rw [e2] at this; simp at this
    · exact ⟨Nat.eq_of_beq_eq_true e1, Nat.eq_of_beq_eq_true e2⟩
theorem inv_lt {a : Nat} (h : a < 256) : inv a < 256 := by rw [inv_pow h]; exact npow_lt h _
/-- There is one alone. -/
theorem inv_one {a b : Nat} (ha : a < 256) (hb : b < 256) (h : mul a b = 1) : b = inv a := by
  have h0 : a ≠ 0 := fun e => by subst e; rw [zero_mul hb] at h; exact absurd h (by decide)
  have h1 := (inv_of ha h0).1
  have hi := inv_lt ha
  have e : mul (inv a) (mul a b) = b := by
    rw [← assoc hi ha hb, comm hi ha, h1, one_mul hb]
  rw [h, mul_one hi] at e
  exact e.symm
/-- Turned up by n digits. -/
def rotl (n x : Nat) : Nat := x * 2 ^ n % 256 + x / 2 ^ (8 - n)
/-- The box of the byte whose inverse it is. -/
def mix (x : Nat) : Nat := Nat.xor (Nat.xor (Nat.xor (Nat.xor (Nat.xor x 99) (rotl 1 x)) (rotl 2 x)) (rotl 3 x)) (rotl 4 x)
def box (a : Nat) : Nat := mix (inv a)
theorem mix_lt_all : alln (fun a => Nat.blt (mix a) 256) 256 = true := by decide +kernel
theorem mix_lt {a : Nat} (h : a < 256) : mix a < 256 := Nat.le_of_ble_eq_true (alln_of mix_lt_all a h)
theorem box_lt {a : Nat} (h : a < 256) : box a < 256 := mix_lt (inv_lt h)
def zeros (n : Nat) : List Nat := List.replicate n 0
/-- The generator's powers: so many, noughts behind them. -/
def gpow : Nat → Nat
  | 0 => 1
  | n + 1 => mul (gpow n) 3
theorem gpow_lt : ∀ n, gpow n < 256
  | 0 => by decide
  | n + 1 => mul_lt 3 (gpow_lt n)
def prow (n : Nat) : List Nat := (List.range 255).map fun i => if i < n then gpow i else 0
/-- The inverses after so many. -/
def irow : Nat → List Nat
  | 0 => zeros 256
  | n + 1 => (irow n).set (gpow n) (gpow ((255 - n) % 255))
def brow (n : Nat) : List Nat := (List.range 256).map fun i => if i < n then box i else 0
def krow : Nat → List Nat
  | 0 => zeros 256
  | n + 1 => (krow n).set (box n) n
theorem irow_len : ∀ n, (irow n).length = 256
  | 0 => List.length_replicate
  | n + 1 => by simp [irow, irow_len n]
theorem krow_len : ∀ n, (krow n).length = 256
  | 0 => List.length_replicate
  | n + 1 => by simp [krow, krow_len n]
theorem irow_all : irow 255 = (List.range 256).map inv := by decide +kernel
theorem krow_all : alln (fun a => Nat.beq ((krow 256).getD (box a) 0) a) 256 = true := by decide +kernel
end Go.Proofs.YtpkeofioobmmoaaGreatDoor.ae
