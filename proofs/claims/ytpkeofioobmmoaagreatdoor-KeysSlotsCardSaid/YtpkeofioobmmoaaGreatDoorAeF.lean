/-
  Contracts of the functions that the statements of package gf go through: the document's products, inverses and powers. Condition: the numbers are bytes.
-/
import Derived.Test.YtpkeofioobmmoaaGreatDoorAeC
namespace Go.Proofs.YtpkeofioobmmoaaGreatDoor.ae
open Go.RowKit
/-- The products of digits, so many. -/
def rp (a b : Nat) : Nat → Nat
  | 0 => 0
  | i + 1 => cond (Nat.beq (b / 2 ^ i % 2) 1) (Nat.xor (rp a b i) (a * 2 ^ i)) (rp a b i)
/-- What is above the seventh power taken away, so many times from the top. -/
def rr (p : Nat) : Nat → Nat
  | 0 => p
  | k + 1 => cond (Nat.beq (rr p k / 2 ^ (14 - k) % 2) 1) (Nat.xor (rr p k) (283 * 2 ^ (6 - k))) (rr p k)
def rmul (a b : Nat) : Nat := rr (rp a b 8) 7 % 256
theorem tb (p j : Nat) : Nat.beq (p / 2 ^ j % 2) 1 = p.testBit j := by
  rw [Nat.testBit_eq_decide_div_mod_eq]
  cases h : Nat.beq (p / 2 ^ j % 2) 1
  · exact (decide_eq_false (fun e => by rw [e] at h; exact absurd h (by decide))).symm
  · exact (decide_eq_true (Nat.eq_of_beq_eq_true h)).symm
theorem rr_xor (p q : Nat) : ∀ k, rr (Nat.xor p q) k = Nat.xor (rr p k) (rr q k)
  | 0 => rfl
  | k + 1 => by
    have hb : (Nat.xor (rr p k) (rr q k)).testBit (14 - k) = ((rr p k).testBit (14 - k) ^^ (rr q k).testBit (14 - k)) := Nat.testBit_xor ..
    rw [rr, rr, rr, rr_xor p q k, tb, tb, tb, hb]
    generalize rr p k = P
    generalize rr q k = Q
    generalize 283 * 2 ^ (6 - k) = c
    cases P.testBit (14 - k) <;> cases Q.testBit (14 - k)
    · rfl
    · show Nat.xor (Nat.xor P Q) c = Nat.xor P (Nat.xor Q c)
      exact xa P Q c
    · show Nat.xor (Nat.xor P Q) c = Nat.xor (Nat.xor P c) Q
      rw [xa, xa, xc Q c]
    · show Nat.xor P Q = Nat.xor (Nat.xor P c) (Nat.xor Q c)
      rw [xc Q c, xa P c, ← xa c c Q, xx, zx]
def red (p : Nat) : Nat := rr p 7 % 256
theorem red_xor (p q : Nat) : red (Nat.xor p q) = Nat.xor (red p) (red q) := by
  unfold red
  rw [rr_xor]
  exact Nat.xor_mod_two_pow (n := 8)
/-- So many times doubled. -/
def dbls (a : Nat) : Nat → Nat
  | 0 => a
  | k + 1 => dbls (dbl a) k
theorem red_all : alln (fun a => alln (fun i => Nat.beq (red (a * 2 ^ i)) (dbls a i)) 8) 256 = true := by decide +kernel
theorem red_zero : red 0 = 0 := by decide +kernel
/-- The sum of the doubles. -/
def sm (a b : Nat) : Nat → Nat
  | 0 => 0
  | k + 1 => Nat.xor (sm a b k) (cond (Nat.beq (b / 2 ^ k % 2) 1) (dbls a k) 0)
theorem red_rp (a b : Nat) (ha : a < 256) : ∀ k, k ≤ 8 → red (rp a b k) = sm a b k
  | 0, _ => red_zero
  | i + 1, h => by
    have e : red (a * 2 ^ i) = dbls a i := Nat.eq_of_beq_eq_true (alln_of (alln_of red_all a ha) i (by omega))
    rw [rp, sm, ← red_rp a b ha i (by omega), ← e]
    cases Nat.beq (b / 2 ^ i % 2) 1
    · exact (x0 _).symm
    · exact red_xor _ _
theorem sm_front (a b : Nat) : ∀ f, sm a b (f + 1) = Nat.xor (cond (Nat.beq (b % 2) 1) a 0) (sm (dbl a) (b / 2) f)
  | 0 => by
    show Nat.xor 0 (cond (Nat.beq (b / 1 % 2) 1) a 0) = Nat.xor _ 0
    rw [zx, x0, Nat.div_one]
  | f + 1 => by
    rw [sm, sm_front a b f, sm, ← xa, show b / 2 / 2 ^ f = b / 2 ^ (f + 1) by rw [Nat.div_div_eq_div_mul, Nat.pow_succ, Nat.mul_comm]]
    rfl
theorem sm_mulg : ∀ (f a b : Nat), mulg f a b 0 = sm a b f
  | 0, _, _ => rfl
  | f + 1, a, b => by
    rw [sm_front, ← sm_mulg f]
    show mulg f (dbl a) (b / 2) (cond (Nat.beq (b % 2) 1) (Nat.xor 0 a) 0) = _
    rw [mulg_out, zx]
theorem rmul_eq {a b : Nat} (ha : a < 256) (_hb : b < 256) : rmul a b = mul a b := by
  show red (rp a b 8) = mulg 8 a b 0
  rw [red_rp a b ha 8 (by omega), sm_mulg]
theorem x16 {a b : Nat} (h : a < 65536) (k : b < 65536) : Nat.xor a b < 65536 := Nat.xor_lt_two_pow (n := 16) h k
theorem rp_lt (a b : Nat) (ha : a < 256) : ∀ k, k ≤ 8 → rp a b k < 65536
  | 0, _ => by show 0 < 65536; omega
  | i + 1, h => by
    have h1 := rp_lt a b ha i (by omega)
    have h2 : a * 2 ^ i < 65536 := by
      have : 2 ^ i ≤ 2 ^ 7 := Nat.pow_le_pow_right (by omega) (by omega)
      have : a * 2 ^ i ≤ 255 * 2 ^ 7 := Nat.mul_le_mul (by omega) this
      omega
    unfold rp
    cases Nat.beq (b / 2 ^ i % 2) 1
    · exact h1
    · exact x16 h1 h2
theorem rr_lt (p : Nat) (hp : p < 65536) : ∀ k, k ≤ 7 → rr p k < 65536
  | 0, _ => hp
  | k + 1, h => by
    have h1 := rr_lt p hp k (by omega)
    have h2 : 283 * 2 ^ (6 - k) < 65536 := by
      have : 2 ^ (6 - k) ≤ 2 ^ 6 := Nat.pow_le_pow_right (by omega) (by omega)
      have : 283 * 2 ^ (6 - k) ≤ 283 * 2 ^ 6 := Nat.mul_le_mul (by omega) this
      omega
    unfold rr
    cases Nat.beq (rr p k / 2 ^ (14 - k) % 2) 1
    · exact h1
    · exact x16 h1 h2
theorem xor64 (a b : Nat) (ha : a < 65536) (hb : b < 65536) : bits .xor .i64 (a : Int) (b : Int) = ((Nat.xor a b : Nat) : Int) := by
  have hx := x16 ha hb
  have e : bits .xor .i64 (a : Int) (b : Int) = IntKind.i64.wrap ((BitVec.ofInt 64 (a : Int) ^^^ BitVec.ofInt 64 (b : Int)).toNat : Int) := rfl
  rw [e, BitVec.toNat_xor, ofInt_i64 a (by omega), ofInt_i64 b (by omega), IntKind.wrap_i64]
  have hx' : a ^^^ b < 65536 := hx
  show _ = ((a ^^^ b : Nat) : Int)
  omega
theorem rp_one (a b i : Nat) (h : b / 2 ^ i % 2 = 1) : rp a b (i + 1) = Nat.xor (rp a b i) (a * 2 ^ i) := by
  rw [rp, h]; rfl
theorem rp_nil (a b i : Nat) (h : b / 2 ^ i % 2 = 0) : rp a b (i + 1) = rp a b i := by
  rw [rp, h]; rfl
theorem rr_one (p k : Nat) (h : rr p k / 2 ^ (14 - k) % 2 = 1) : rr p (k + 1) = Nat.xor (rr p k) (283 * 2 ^ (6 - k)) := by
  rw [rr, h]; rfl
theorem rr_nil (p k : Nat) (h : rr p k / 2 ^ (14 - k) % 2 = 0) : rr p (k + 1) = rr p k := by
  rw [rr, h]; rfl
set_option maxRecDepth 100000 in
set_option maxHeartbeats 4000000 in
theorem refMul (a b : Nat) (ha : a < 256) (hb : b < 256) (w : World) : Calls Tryz.prog 71 #[.int .u8 a, .int .u8 b] w fun e w' => e = .returned (.int .u8 (mul a b : Nat)) ∧ w = w' := by
  have HM : Hid (rmul a b = mul a b) := rmul_eq ha hb
  go_enter Tryz.func71, Tryz.ntmps71
  go_wp2
  go_loop [5, 6, 7] (fun vp vq vi => ∃ k : Nat, k ≤ 8 ∧ vi = .int .i64 k ∧ vq = .int .i64 ((2 ^ k : Nat) : Int) ∧ vp = .int .i64 (rp a b k : Nat)) (fun _ _ vi => 8 - (intOf vi).toNat)
  case atStart => exact ⟨0, by omega, rfl, rfl, rfl⟩
  case round =>
    obtain ⟨k, hk, rfl, rfl, rfl⟩ := hrel
    have hcase : k = 0 ∨ k = 1 ∨ k = 2 ∨ k = 3 ∨ k = 4 ∨ k = 5 ∨ k = 6 ∨ k = 7 ∨ k = 8 := by omega
    rcases hcase with rfl | rfl | rfl | rfl | rfl | rfl | rfl | rfl | rfl
    · have hq := rp_lt a b ha 0 (by omega)
      by_cases hbit : b / 2 ^ 0 % 2 = 1
      · have hb1 : (b : Int) % 2 = 1 := by omega
        have hx : bits .xor .i64 (rp a b 0 : Int) ((a : Int)) = ((rp a b 1 : Nat) : Int) := by
          rw [rp_one a b 0 hbit, ← xor64 _ _ hq (by omega)]; exact congrArg (bits .xor .i64 (rp a b 0 : Int)) (by omega)
        clear hbit
        go_wp2_with fail
        go_round
        case rel => exact ⟨1, by omega, rfl, rfl, rfl⟩
        case measure => simp [intOf]
      · have hb1 : (b : Int) % 2 = 0 := by omega
        have hx : rp a b 1 = rp a b 0 := rp_nil a b 0 (by omega)
        have HX := Lib.hid hx
        clear hbit hx
        go_wp2_with fail
        go_round
        case rel => exact ⟨1, by omega, rfl, rfl, by rw [HX.out]⟩
        case measure => simp [intOf]
    · have hq := rp_lt a b ha 1 (by omega)
      by_cases hbit : b / 2 ^ 1 % 2 = 1
      · have hb1 : (b : Int) / 2 % 2 = 1 := by omega
        have hx : bits .xor .i64 (rp a b 1 : Int) ((a : Int) * 2) = ((rp a b 2 : Nat) : Int) := by
          rw [rp_one a b 1 hbit, ← xor64 _ _ hq (by omega)]; exact congrArg (bits .xor .i64 (rp a b 1 : Int)) (by omega)
        clear hbit
        go_wp2_with fail
        go_round
        case rel => exact ⟨2, by omega, rfl, rfl, rfl⟩
        case measure => simp [intOf]
      · have hb1 : (b : Int) / 2 % 2 = 0 := by omega
        have hx : rp a b 2 = rp a b 1 := rp_nil a b 1 (by omega)
        have HX := Lib.hid hx
        clear hbit hx
        go_wp2_with fail
        go_round
        case rel => exact ⟨2, by omega, rfl, rfl, by rw [HX.out]⟩
        case measure => simp [intOf]
    · have hq := rp_lt a b ha 2 (by omega)
      by_cases hbit : b / 2 ^ 2 % 2 = 1
      · have hb1 : (b : Int) / 4 % 2 = 1 := by omega
        have hx : bits .xor .i64 (rp a b 2 : Int) ((a : Int) * 4) = ((rp a b 3 : Nat) : Int) := by
          rw [rp_one a b 2 hbit, ← xor64 _ _ hq (by omega)]; exact congrArg (bits .xor .i64 (rp a b 2 : Int)) (by omega)
        clear hbit
        go_wp2_with fail
        go_round
        case rel => exact ⟨3, by omega, rfl, rfl, rfl⟩
        case measure => simp [intOf]
      · have hb1 : (b : Int) / 4 % 2 = 0 := by omega
        have hx : rp a b 3 = rp a b 2 := rp_nil a b 2 (by omega)
        have HX := Lib.hid hx
        clear hbit hx
        go_wp2_with fail
        go_round
        case rel => exact ⟨3, by omega, rfl, rfl, by rw [HX.out]⟩
        case measure => simp [intOf]
    · have hq := rp_lt a b ha 3 (by omega)
      by_cases hbit : b / 2 ^ 3 % 2 = 1
      · have hb1 : (b : Int) / 8 % 2 = 1 := by omega
        have hx : bits .xor .i64 (rp a b 3 : Int) ((a : Int) * 8) = ((rp a b 4 : Nat) : Int) := by
          rw [rp_one a b 3 hbit, ← xor64 _ _ hq (by omega)]; exact congrArg (bits .xor .i64 (rp a b 3 : Int)) (by omega)
        clear hbit
        go_wp2_with fail
        go_round
        case rel => exact ⟨4, by omega, rfl, rfl, rfl⟩
        case measure => simp [intOf]
      · have hb1 : (b : Int) / 8 % 2 = 0 := by omega
        have hx : rp a b 4 = rp a b 3 := rp_nil a b 3 (by omega)
        have HX := Lib.hid hx
        clear hbit hx
        go_wp2_with fail
        go_round
        case rel => exact ⟨4, by omega, rfl, rfl, by rw [HX.out]⟩
        case measure => simp [intOf]
    · have hq := rp_lt a b ha 4 (by omega)
      by_cases hbit : b / 2 ^ 4 % 2 = 1
      · have hb1 : (b : Int) / 16 % 2 = 1 := by omega
        have hx : bits .xor .i64 (rp a b 4 : Int) ((a : Int) * 16) = ((rp a b 5 : Nat) : Int) := by
          rw [rp_one a b 4 hbit, ← xor64 _ _ hq (by omega)]; exact congrArg (bits .xor .i64 (rp a b 4 : Int)) (by omega)
        clear hbit
        go_wp2_with fail
        go_round
        case rel => exact ⟨5, by omega, rfl, rfl, rfl⟩
        case measure => simp [intOf]
      · have hb1 : (b : Int) / 16 % 2 = 0 := by omega
        have hx : rp a b 5 = rp a b 4 := rp_nil a b 4 (by omega)
        have HX := Lib.hid hx
        clear hbit hx
        go_wp2_with fail
        go_round
        case rel => exact ⟨5, by omega, rfl, rfl, by rw [HX.out]⟩
        case measure => simp [intOf]
    · have hq := rp_lt a b ha 5 (by omega)
      by_cases hbit : b / 2 ^ 5 % 2 = 1
      · have hb1 : (b : Int) / 32 % 2 = 1 := by omega
        have hx : bits .xor .i64 (rp a b 5 : Int) ((a : Int) * 32) = ((rp a b 6 : Nat) : Int) := by
          rw [rp_one a b 5 hbit, ← xor64 _ _ hq (by omega)]; exact congrArg (bits .xor .i64 (rp a b 5 : Int)) (by omega)
        clear hbit
        go_wp2_with fail
        go_round
        case rel => exact ⟨6, by omega, rfl, rfl, rfl⟩
        case measure => simp [intOf]
      · have hb1 : (b : Int) / 32 % 2 = 0 := by omega
        have hx : rp a b 6 = rp a b 5 := rp_nil a b 5 (by omega)
        have HX := Lib.hid hx
        clear hbit hx
        go_wp2_with fail
        go_round
        case rel => exact ⟨6, by omega, rfl, rfl, by rw [HX.out]⟩
        case measure => simp [intOf]
    · have hq := rp_lt a b ha 6 (by omega)
      by_cases hbit : b / 2 ^ 6 % 2 = 1
      · have hb1 : (b : Int) / 64 % 2 = 1 := by omega
        have hx : bits .xor .i64 (rp a b 6 : Int) ((a : Int) * 64) = ((rp a b 7 : Nat) : Int) := by
          rw [rp_one a b 6 hbit, ← xor64 _ _ hq (by omega)]; exact congrArg (bits .xor .i64 (rp a b 6 : Int)) (by omega)
        clear hbit
        go_wp2_with fail
        go_round
        case rel => exact ⟨7, by omega, rfl, rfl, rfl⟩
        case measure => simp [intOf]
      · have hb1 : (b : Int) / 64 % 2 = 0 := by omega
        have hx : rp a b 7 = rp a b 6 := rp_nil a b 6 (by omega)
        have HX := Lib.hid hx
        clear hbit hx
        go_wp2_with fail
        go_round
        case rel => exact ⟨7, by omega, rfl, rfl, by rw [HX.out]⟩
        case measure => simp [intOf]
    · have hq := rp_lt a b ha 7 (by omega)
      by_cases hbit : b / 2 ^ 7 % 2 = 1
      · have hb1 : (b : Int) / 128 % 2 = 1 := by omega
        have hx : bits .xor .i64 (rp a b 7 : Int) ((a : Int) * 128) = ((rp a b 8 : Nat) : Int) := by
          rw [rp_one a b 7 hbit, ← xor64 _ _ hq (by omega)]; exact congrArg (bits .xor .i64 (rp a b 7 : Int)) (by omega)
        clear hbit
        go_wp2_with fail
        go_round
        case rel => exact ⟨8, by omega, rfl, rfl, rfl⟩
        case measure => simp [intOf]
      · have hb1 : (b : Int) / 128 % 2 = 0 := by omega
        have hx : rp a b 8 = rp a b 7 := rp_nil a b 7 (by omega)
        have HX := Lib.hid hx
        clear hbit hx
        go_wp2_with fail
        go_round
        case rel => exact ⟨8, by omega, rfl, rfl, by rw [HX.out]⟩
        case measure => simp [intOf]
    · have hp := rp_lt a b ha 8 (by omega)
      have HR : Hid (rmul a b = rr (rp a b 8) 7 % 256) := rfl
      generalize rp a b 8 = p at *
      go_wp2_with fail
      go_loop [5, 6] (fun vp vq => ∃ k : Nat, k ≤ 7 ∧ vq = .int .i64 ((2 ^ (14 - k) : Nat) : Int) ∧ vp = .int .i64 (rr p k : Nat)) (fun _ vq => (intOf vq).toNat)
      case atStart => exact ⟨0, by omega, rfl, rfl⟩
      case round =>
        obtain ⟨k, hk, rfl, rfl⟩ := hrel
        have hcase : k = 0 ∨ k = 1 ∨ k = 2 ∨ k = 3 ∨ k = 4 ∨ k = 5 ∨ k = 6 ∨ k = 7 := by omega
        rcases hcase with rfl | rfl | rfl | rfl | rfl | rfl | rfl | rfl
        · have hq := rr_lt p hp 0 (by omega)
          by_cases hbit : rr p 0 / 2 ^ (14 - 0) % 2 = 1
          · have hb1 : (rr p 0 : Int) / 16384 % 2 = 1 := by omega
            have hx : bits .xor .i64 (rr p 0 : Int) 18112 = ((rr p 1 : Nat) : Int) := by
              rw [rr_one p 0 hbit, ← xor64 _ _ hq (by omega)]; rfl
            clear hbit
            have HX := Lib.hid hx
            clear hx
            go_wp2_with fail
            go_round
            case rel => exact ⟨1, by omega, rfl, by rw [HX.out]⟩
            case measure => simp [intOf]
          · have hb1 : (rr p 0 : Int) / 16384 % 2 = 0 := by omega
            have hx : rr p 1 = rr p 0 := rr_nil p 0 (by omega)
            have HX := Lib.hid hx
            clear hbit hx
            go_wp2_with fail
            go_round
            case rel => exact ⟨1, by omega, rfl, by rw [HX.out]⟩
            case measure => simp [intOf]
        · have hq := rr_lt p hp 1 (by omega)
          by_cases hbit : rr p 1 / 2 ^ (14 - 1) % 2 = 1
          · have hb1 : (rr p 1 : Int) / 8192 % 2 = 1 := by omega
            have hx : bits .xor .i64 (rr p 1 : Int) 9056 = ((rr p 2 : Nat) : Int) := by
              rw [rr_one p 1 hbit, ← xor64 _ _ hq (by omega)]; rfl
            clear hbit
            have HX := Lib.hid hx
            clear hx
            go_wp2_with fail
            go_round
            case rel => exact ⟨2, by omega, rfl, by rw [HX.out]⟩
            case measure => simp [intOf]
          · have hb1 : (rr p 1 : Int) / 8192 % 2 = 0 := by omega
            have hx : rr p 2 = rr p 1 := rr_nil p 1 (by omega)
            have HX := Lib.hid hx
            clear hbit hx
            go_wp2_with fail
            go_round
            case rel => exact ⟨2, by omega, rfl, by rw [HX.out]⟩
            case measure => simp [intOf]
        · have hq := rr_lt p hp 2 (by omega)
          by_cases hbit : rr p 2 / 2 ^ (14 - 2) % 2 = 1
          · have hb1 : (rr p 2 : Int) / 4096 % 2 = 1 := by omega
            have hx : bits .xor .i64 (rr p 2 : Int) 4528 = ((rr p 3 : Nat) : Int) := by
              rw [rr_one p 2 hbit, ← xor64 _ _ hq (by omega)]; rfl
            clear hbit
            have HX := Lib.hid hx
            clear hx
            go_wp2_with fail
            go_round
            case rel => exact ⟨3, by omega, rfl, by rw [HX.out]⟩
            case measure => simp [intOf]
          · have hb1 : (rr p 2 : Int) / 4096 % 2 = 0 := by omega
            have hx : rr p 3 = rr p 2 := rr_nil p 2 (by omega)
            have HX := Lib.hid hx
            clear hbit hx
            go_wp2_with fail
            go_round
            case rel => exact ⟨3, by omega, rfl, by rw [HX.out]⟩
            case measure => simp [intOf]
        · have hq := rr_lt p hp 3 (by omega)
          by_cases hbit : rr p 3 / 2 ^ (14 - 3) % 2 = 1
          · have hb1 : (rr p 3 : Int) / 2048 % 2 = 1 := by omega
            have hx : bits .xor .i64 (rr p 3 : Int) 2264 = ((rr p 4 : Nat) : Int) := by
              rw [rr_one p 3 hbit, ← xor64 _ _ hq (by omega)]; rfl
            clear hbit
            have HX := Lib.hid hx
            clear hx
            go_wp2_with fail
            go_round
            case rel => exact ⟨4, by omega, rfl, by rw [HX.out]⟩
            case measure => simp [intOf]
          · have hb1 : (rr p 3 : Int) / 2048 % 2 = 0 := by omega
            have hx : rr p 4 = rr p 3 := rr_nil p 3 (by omega)
            have HX := Lib.hid hx
            clear hbit hx
            go_wp2_with fail
            go_round
            case rel => exact ⟨4, by omega, rfl, by rw [HX.out]⟩
            case measure => simp [intOf]
        · have hq := rr_lt p hp 4 (by omega)
          by_cases hbit : rr p 4 / 2 ^ (14 - 4) % 2 = 1
          · have hb1 : (rr p 4 : Int) / 1024 % 2 = 1 := by omega
            have hx : bits .xor .i64 (rr p 4 : Int) 1132 = ((rr p 5 : Nat) : Int) := by
              rw [rr_one p 4 hbit, ← xor64 _ _ hq (by omega)]; rfl
            clear hbit
            have HX := Lib.hid hx
            clear hx
            go_wp2_with fail
            go_round
            case rel => exact ⟨5, by omega, rfl, by rw [HX.out]⟩
            case measure => simp [intOf]
          · have hb1 : (rr p 4 : Int) / 1024 % 2 = 0 := by omega
            have hx : rr p 5 = rr p 4 := rr_nil p 4 (by omega)
            have HX := Lib.hid hx
            clear hbit hx
            go_wp2_with fail
            go_round
            case rel => exact ⟨5, by omega, rfl, by rw [HX.out]⟩
            case measure => simp [intOf]
        · have hq := rr_lt p hp 5 (by omega)
          by_cases hbit : rr p 5 / 2 ^ (14 - 5) % 2 = 1
          · have hb1 : (rr p 5 : Int) / 512 % 2 = 1 := by omega
            have hx : bits .xor .i64 (rr p 5 : Int) 566 = ((rr p 6 : Nat) : Int) := by
              rw [rr_one p 5 hbit, ← xor64 _ _ hq (by omega)]; rfl
            clear hbit
            have HX := Lib.hid hx
            clear hx
            go_wp2_with fail
            go_round
            case rel => exact ⟨6, by omega, rfl, by rw [HX.out]⟩
            case measure => simp [intOf]
          · have hb1 : (rr p 5 : Int) / 512 % 2 = 0 := by omega
            have hx : rr p 6 = rr p 5 := rr_nil p 5 (by omega)
            have HX := Lib.hid hx
            clear hbit hx
            go_wp2_with fail
            go_round
            case rel => exact ⟨6, by omega, rfl, by rw [HX.out]⟩
            case measure => simp [intOf]
        · have hq := rr_lt p hp 6 (by omega)
          by_cases hbit : rr p 6 / 2 ^ (14 - 6) % 2 = 1
          · have hb1 : (rr p 6 : Int) / 256 % 2 = 1 := by omega
            have hx : bits .xor .i64 (rr p 6 : Int) 283 = ((rr p 7 : Nat) : Int) := by
              rw [rr_one p 6 hbit, ← xor64 _ _ hq (by omega)]; rfl
            clear hbit
            have HX := Lib.hid hx
            clear hx
            go_wp2_with fail
            go_round
            case rel => exact ⟨7, by omega, rfl, by rw [HX.out]⟩
            case measure => simp [intOf]
          · have hb1 : (rr p 6 : Int) / 256 % 2 = 0 := by omega
            have hx : rr p 7 = rr p 6 := rr_nil p 6 (by omega)
            have HX := Lib.hid hx
            clear hbit hx
            go_wp2_with fail
            go_round
            case rel => exact ⟨7, by omega, rfl, by rw [HX.out]⟩
            case measure => simp [intOf]
        · have hq := rr_lt p hp 7 (by omega)
          go_wp2_with fail
          go_ret
          exact ⟨ret_u8 (by rw [← HM.out, HR.out]; omega), rfl⟩
end Go.Proofs.YtpkeofioobmmoaaGreatDoor.ae
