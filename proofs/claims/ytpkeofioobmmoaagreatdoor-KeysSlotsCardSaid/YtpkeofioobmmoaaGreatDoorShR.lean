/-
  Contracts of the document's own sums and marks, of hmac.Extract and of hmac.Derive. Conditions: texts are of bounded length.
-/
import Derived.Test.YtpkeofioobmmoaaGreatDoorShP
import Derived.Deep.RegionLaw
import Derived.IntWalk
import Derived.StillTailTactics
import Derived.Outline
import Derived.Test.YtpkeofioobmmoaaGreatDoorShLaid
import Derived.Deep.Matrix
import Derived.Deep.RegionHeld
import Derived.Test.YtpkeofioobmmoaaGreatDoorShQ
import Derived.Laws.IdiomStrings
import Derived.ArgAppend
namespace Go.Proofs.YtpkeofioobmmoaaGreatDoor.sh
open Go.RowKit
theorem number (v : Value) (xs : List Int) (hl : xs.length ≤ 8) (w : World) (h : Sees w v xs) : Calls Tryz.prog 92 #[v] w fun e w' => e = .returned (.int .u64 (numI xs)) ∧ w = w' := by
  have hpos : ∀ (b o cap : Nat), (∀ i, i < xs.length → w.cell? ⟨b, o + i, none⟩ = some (.int .u8 (nth xs i))) → Calls Tryz.prog 92 #[.slice (some ⟨b, o, none⟩) xs.length cap] w fun e w' => e = .returned (.int .u64 (numI xs)) ∧ w = w' := by
    intro b o cap hc
    have hb := h.1
    clear h
    go_enter Tryz.func92, Tryz.ntmps92
    go_wp2
    go_loop [3, 4] (fun u i => ∃ k : Nat, k ≤ xs.length ∧ i = .int .i64 k ∧ u = .int .u64 (numI (xs.take k))) (fun _ i => xs.length - (intOf i).toNat)
    case atStart => exact ⟨0, by omega, rfl, by simp [numI]⟩
    case round =>
      obtain ⟨k, hk, rfl, rfl⟩ := hrel
      by_cases hlt : k < xs.length
      · have hcell := hc k hlt
        have hbd := numI_bd k (xs.take k) (by simp; omega) (hb.take k)
        have hpw := pow7 k (by omega)
        have hg := hb.nth k
        have h0 : 0 ≤ numI (xs.take k) := hbd.1
        have h1 : numI (xs.take k) ≤ 72057594037927935 := by omega
        have h2 : 0 ≤ nth xs k := hg.1
        have h3 : nth xs k ≤ 255 := hg.2
        have ST : Hid (numI (xs.take (k + 1)) = numI (xs.take k) * 256 + nth xs k) := by show _ = _; rw [take_snoc xs k hlt, numI_snoc]
        clear hbd hpw hg hc
        go_wp2
        go_round
        case rel => exact ⟨k + 1, by omega, by go_num, by rw [ST.out]; first | rfl | (congr 1; omega)⟩
        case measure => simp [intOf]; omega
      · obtain rfl : k = xs.length := by omega
        rw [List.take_length]
        clear hc hb
        go_wp2
        go_ret
        exact ⟨rfl, rfl⟩
  have hzero : ∀ (x : Option Addr) (cap : Nat), Calls Tryz.prog 92 #[.slice x 0 cap] w fun e w' => e = .returned (.int .u64 0) ∧ w = w' := by
    intro x cap
    clear h hpos
    go_enter Tryz.func92, Tryz.ntmps92
    go_wp2
    go_loop [3, 4] (fun u i => i = .int .i64 0 ∧ u = .int .u64 0) (fun _ _ => 0)
    case atStart => exact ⟨rfl, rfl⟩
    case round =>
      obtain ⟨rfl, rfl⟩ := hrel
      go_wp2
      go_ret
      exact ⟨rfl, rfl⟩
  obtain ⟨h1, ⟨rfl, rfl⟩ | ⟨a, cap, rfl, rfl, _⟩ | ⟨b, o, cap, rfl, h3, h4, h5, h6⟩⟩ := h
  · exact hzero _ _
  · exact hzero _ _
  · exact hpos b o cap h6

set_option maxHeartbeats 1000000 in
theorem refBytes (v : Int) (n : Nat) (hn : n ≤ 8) (h0 : 0 ≤ v) (h1 : v ≤ 18446744073709551615) (w : World) : Calls Tryz.prog 25 #[.int .u64 v, .int .i64 n] w (OwnP w (be n v)) := by
  go_enter Tryz.func25, Tryz.ntmps25
  go_wp2
  go_loopw [0, 5, 6] (fun q u i wr => ∃ (k : Nat) (y : Int) (x : Option Addr) (cap : Nat) (zs : List Int), k ≤ n ∧ i = .int .i64 k ∧ 0 ≤ y ∧ y ≤ 18446744073709551615 ∧ q = .int .u64 y ∧ zs.length = k ∧ be n v = be (n - k) y ++ zs ∧ u = .slice x k cap ∧ Own wr w.heap.size u zs ∧ Below w.heap.size w wr) (fun _ _ i _ => n - (intOf i).toNat)
  case atStart => exact ⟨0, v, none, 0, [], by omega, rfl, h0, h1, rfl, rfl, by simp, rfl, own_nil _ _, Below.refl _ _⟩
  case round =>
    obtain ⟨k, y, x, cap, zs, hk, rfl, hy0, hy1, rfl, hzl, hbe, rfl, ho, hb⟩ := hrel
    have HBE := Lib.hid hbe
    have HZ := Lib.hid hzl
    by_cases hlt : k < n
    · have HS := Lib.hid (sees_new wr #[.int .u8 (y % 256)] [y % 256] rfl (fun z hz => by simp at hz; omega) (by simp [maxLen]) _ rfl 1 rfl)
      have HO := Lib.hid (ho.below ((Below.refl _ _).alloc (Nat.le_refl _) (.cells #[.int .u8 (y % 256)] 5)))
      have HB := Lib.hid (hb.alloc hb.size (.cells #[.int .u8 (y % 256)] 5))
      have hown1 : Own (wr.alloc (.cells #[.int .u8 (y % 256)] 5)) (wr.heap.size) (.slice (some ⟨wr.heap.size, 0, none⟩) 1 1) [y % 256] :=
        ⟨fun z hz => by simp at hz; omega, rfl, .inr ⟨wr.heap.size, 1, #[.int .u8 (y % 256)], rfl, Nat.le_refl _, heap_alloc_new wr _, by simp, by decide, rfl, rfl⟩⟩
      obtain ⟨x3, c3, w3, hr, ho3, hg3, hb3⟩ := app hown1 HO.out.sees (by simp; omega) (by simp)
      simp only [List.length_cons, List.length_nil, Nat.zero_add, HZ.out, List.cons_append, List.nil_append] at hr ho3
      have HR := Lib.hid hr
      have HO3 : Hid (Own w3 w.heap.size (.slice x3 (1 + k) c3) (y % 256 :: zs)) := by
        show Own _ _ _ _
        obtain ⟨hb1, hl1, h⟩ := ho3
        refine ⟨hb1, hl1, ?_⟩
        rcases h with h | ⟨g, cap', cur, e1, e2, e3⟩
        · exact .inl h
        · exact .inr ⟨g, cap', cur, e1, Nat.le_trans hb.size e2, e3⟩
      have HB3 := Lib.hid (HB.out.trans (hb3.mono hb.size))
      have HN : Hid (be n v = be (n - (k + 1)) (y / 256) ++ (y % 256 :: zs)) := by
        show _ = _
        rw [HBE.out]
        obtain ⟨m, hm⟩ : ∃ m, n - k = m + 1 := ⟨n - k - 1, by omega⟩
        have hm2 : n - (k + 1) = m := by omega
        rw [hm, hm2, be, List.append_assoc]
        rfl
      have hq0 : 0 ≤ y / 256 := by omega
      have hq1 : y / 256 ≤ 18446744073709551615 := by omega
      clear hr ho3 hg3 hb3 hown1 ho hb hbe hzl
      go_wp2_with (at_builtin; refine wpList_app rfl _ _ rfl rfl rfl rfl HR.out ?_)
      go_roundw
      case rel => exact ⟨k + 1, y / 256, x3, c3, y % 256 :: zs, by omega, by go_num, hq0, hq1, rfl, by simp [HZ.out], HN.out, by rw [Nat.add_comm 1 k], by rw [Nat.add_comm 1 k] at *; exact HO3.out, HB3.out⟩
      case measure => simp [intOf]; omega
    · have hkn : k = n := by omega
      subst hkn
      have HE : Hid (be k v = zs) := by show _ = _; rw [HBE.out, Nat.sub_self]; rfl
      have HO := Lib.hid ho
      have HB := Lib.hid hb
      clear ho hb hbe hzl
      go_wp2
      go_ret
      have hl : (be k v).length = k := be_len k v
      rw [HE.out] at hl
      unfold OwnP
      rw [HE.out, hl]
      exact ⟨x, cap, rfl, HO.out, HB.out⟩
/-- Halved, the digit that leaves put at the top. -/
def rt1 (x : Int) : Int := x / 2 + x % 2 * 2147483648
def rtk : Nat → Int → Int
  | 0, x => x
  | k + 1, x => rt1 (rtk k x)
theorem rtk_bd (x : Int) (h : 0 ≤ x ∧ x ≤ 4294967295) : ∀ k, 0 ≤ rtk k x ∧ rtk k x ≤ 4294967295
  | 0 => h
  | k + 1 => by have := rtk_bd x h k; unfold rtk rt1; omega
theorem rtk_nat (x : Nat) (h : x < 4294967296) : ∀ k, k ≤ 32 → rtk k (x : Int) = ((x / 2 ^ k + x % 2 ^ k * 2 ^ (32 - k) : Nat) : Int)
  | 0, _ => by simp [rtk, Nat.mod_one]
  | k + 1, hk => by
    have ih := rtk_nat x h k (by omega)
    obtain ⟨m, hm⟩ : ∃ m, 32 - k = m + 1 := ⟨31 - k, by omega⟩
    have hm2 : 32 - (k + 1) = m := by omega
    have hp : 2 ^ k * 2 ^ m = 2147483648 := by rw [← Nat.pow_add, show k + m = 31 by omega]
    rw [rtk, ih, hm, hm2]
    have e1 : x / 2 ^ (k + 1) = x / 2 ^ k / 2 := by rw [Nat.div_div_eq_div_mul, Nat.pow_succ]
    have e2 : x % 2 ^ (k + 1) = x % 2 ^ k + 2 ^ k * (x / 2 ^ k % 2) := Nat.mod_pow_succ
    rw [e1, e2, Nat.pow_succ, Nat.add_mul, Nat.mul_right_comm, hp]
    generalize x / 2 ^ k = q
    have e3 : x % 2 ^ k * (2 ^ m * 2) = 2 * (x % 2 ^ k * 2 ^ m) := by rw [Nat.mul_comm (2 ^ m) 2, Nat.mul_left_comm]
    rw [e3]
    generalize x % 2 ^ k * 2 ^ m = r
    unfold rt1
    omega
theorem or32 (a b : Nat) (ha : a < 4294967296) (hb : b < 4294967296) : bits .or .u32 (a : Int) (b : Int) = ((a ||| b : Nat) : Int) := by
  have e : bits .or .u32 (a : Int) (b : Int) = IntKind.u32.wrap ((BitVec.ofInt 32 (a : Int) ||| BitVec.ofInt 32 (b : Int)).toNat : Int) := rfl
  rw [e, BitVec.ofInt_natCast, BitVec.ofInt_natCast, BitVec.toNat_or, BitVec.toNat_ofNat, BitVec.toNat_ofNat, Nat.mod_eq_of_lt ha, Nat.mod_eq_of_lt hb]
  have hl := Nat.or_lt_two_pow (n := 32) ha hb
  simp [IntKind.wrap, IntKind.bits, IntKind.signed]
  omega
theorem rtk_rot (n : Nat) (h1 : 0 < n) (h2 : n < 32) (x : Int) (h : 0 ≤ x ∧ x ≤ 4294967295) : rtk n x = rot n x := by
  obtain ⟨y, rfl⟩ := Int.eq_ofNat_of_zero_le h.1
  have hy : y < 4294967296 := by omega
  rw [rtk_nat y hy n (by omega)]
  have hp : 2 ^ n * 2 ^ (32 - n) = 4294967296 := by rw [← Nat.pow_add, show n + (32 - n) = 32 by omega]
  have hM : 0 < 2 ^ (32 - n) := Nat.two_pow_pos _
  have e1 : y * 2 ^ (32 - n) % 4294967296 = y % 2 ^ n * 2 ^ (32 - n) := by rw [← hp, Nat.mul_mod_mul_right]
  have e2 : y / 2 ^ n < 2 ^ (32 - n) := Nat.div_lt_of_lt_mul (by rw [hp]; exact hy)
  have e3 : y % 2 ^ n * 2 ^ (32 - n) < 4294967296 := by rw [← e1]; exact Nat.mod_lt _ (by omega)
  have e4 : y / 2 ^ n < 4294967296 := Nat.lt_of_le_of_lt (Nat.div_le_self _ _) hy
  have key := or32 _ _ e3 e4
  have e5 : y % 2 ^ n * 2 ^ (32 - n) ||| y / 2 ^ n = y / 2 ^ n + y % 2 ^ n * 2 ^ (32 - n) := by
    rw [← Nat.shiftLeft_eq, ← Nat.shiftLeft_add_eq_or_of_lt e2, Nat.add_comm]
  rw [e5, ← e1] at key
  rw [e1] at key
  rw [← key]
  unfold rot
  congr 1
  rw [← e1]; simp
set_option maxHeartbeats 1000000 in
theorem turnedN (x : Int) (h : 0 ≤ x ∧ x ≤ 4294967295) (n : Nat) (hn : n ≤ 1000) (w : World) : Calls Tryz.prog 91 #[.int .u32 x, .int .i64 n] w fun e w' => e = .returned (.int .u32 (rtk n x)) ∧ w = w' := by
  go_enter Tryz.func91, Tryz.ntmps91
  go_wp2
  go_loop [0, 5] (fun v i => ∃ k : Nat, k ≤ n ∧ i = .int .i64 k ∧ v = .int .u32 (rtk k x)) (fun _ i => n - (intOf i).toNat)
  case atStart => exact ⟨0, by omega, rfl, rfl⟩
  case round =>
    obtain ⟨k, hk, rfl, rfl⟩ := hrel
    obtain ⟨b1, b2⟩ := rtk_bd x h k
    by_cases hlt : k < n
    · have HR : Hid (rtk (k + 1) x = rtk k x / 2 + rtk k x % 2 * 2147483648) := rfl
      generalize rtk k x = y at *
      go_wp2
      go_round
      case rel => exact ⟨k + 1, by omega, by go_num, by rw [HR.out]⟩
      case measure => simp [intOf]; omega
    · obtain rfl : k = n := by omega
      go_wp2
      go_ret
      exact ⟨rfl, rfl⟩
theorem movedN (x : Int) (h : 0 ≤ x ∧ x ≤ 4294967295) (n : Nat) (hn : n ≤ 1000) (w : World) : Calls Tryz.prog 93 #[.int .u32 x, .int .i64 n] w fun e w' => e = .returned (.int .u32 (x / 2 ^ n)) ∧ w = w' := by
  go_enter Tryz.func93, Tryz.ntmps93
  go_wp2
  go_loop [0, 5] (fun v i => ∃ (k : Nat) (y : Int), k ≤ n ∧ i = .int .i64 k ∧ v = .int .u32 y ∧ 0 ≤ y ∧ y ≤ 4294967295 ∧ y = x / 2 ^ k) (fun _ i => n - (intOf i).toNat)
  case atStart => exact ⟨0, x, by omega, rfl, rfl, h.1, h.2, by simp⟩
  case round =>
    obtain ⟨k, y, hk, rfl, rfl, b1, b2, hy⟩ := hrel
    have HY := Lib.hid hy
    clear hy
    by_cases hlt : k < n
    · go_wp2
      go_round
      case rel =>
        refine ⟨k + 1, y / 2, by omega, by go_num, rfl, by omega, by omega, ?_⟩
        rw [HY.out, Int.ediv_ediv_of_nonneg (Int.pow_nonneg (by omega)), Int.pow_succ]
      case measure => simp [intOf]; omega
    · obtain rfl : k = n := by omega
      go_wp2
      go_ret
      exact ⟨by rw [HY.out]; rfl, rfl⟩
theorem dturn (x : Int) (h0 : 0 ≤ x) (h1 : x ≤ 4294967295) (z : Int) (hz0 : 0 < z) (hz1 : z < 32) (w : World) : Calls Tryz.prog 91 #[.int .u32 x, .int .i64 z] w fun e w' => e = .returned (.int .u32 (rot z.toNat x)) ∧ w' = w := by
  obtain ⟨n, rfl⟩ := Int.eq_ofNat_of_zero_le (show 0 ≤ z by omega)
  have h := turnedN x ⟨h0, h1⟩ n (by omega) w
  rw [rtk_rot n (by omega) (by omega) x ⟨h0, h1⟩] at h
  exact h.mono fun _ _ ⟨a, b⟩ => ⟨a, b.symm⟩
theorem dmove3 (x : Int) (h0 : 0 ≤ x) (h1 : x ≤ 4294967295) (w : World) : Calls Tryz.prog 93 #[.int .u32 x, .int .i64 3] w fun e w' => e = .returned (.int .u32 (x / 8)) ∧ w' = w :=
  (movedN x ⟨h0, h1⟩ 3 (by omega) w).mono fun _ _ ⟨a, b⟩ => ⟨a, b.symm⟩
theorem dmove10 (x : Int) (h0 : 0 ≤ x) (h1 : x ≤ 4294967295) (w : World) : Calls Tryz.prog 93 #[.int .u32 x, .int .i64 10] w fun e w' => e = .returned (.int .u32 (x / 1024)) ∧ w' = w :=
  (movedN x ⟨h0, h1⟩ 10 (by omega) w).mono fun _ _ ⟨a, b⟩ => ⟨a, b.symm⟩
/-- The call's own numbers, in a block from base on. -/
def OwnK (k : IntKind) (E : TypeId) (w : World) (base : Nat) (v : Value) (xs : List Int) : Prop := w.ownsRow base E 1 v xs.length (xs.map (Value.int k))
theorem ownk_nil (k : IntKind) (E : TypeId) (w : World) (base : Nat) : OwnK k E w base (.slice none 0 0) [] := World.ownsRow_nil w base E 1
theorem OwnK.grown {k : IntKind} {E : TypeId} {w w' : World} {base : Nat} {v : Value} {xs : List Int} {row : Option Nat} (h : OwnK k E w base v xs) (hg : w.grownBy w' row) (hne : v.ownBlock = none ∨ v.ownBlock ≠ row) : OwnK k E w' base v xs :=
  World.ownsRow.kept h hg hne
theorem OwnK.below {k : IntKind} {E : TypeId} {w w' : World} {base : Nat} {v : Value} {xs : List Int} (h : OwnK k E w base v xs) (hb : Below w.heap.size w w') : OwnK k E w' base v xs :=
  h.grown (row := none) ⟨hb.os, hb.tape, hb.output, hb.size, fun j hj _ => hb.block j hj⟩ (by cases v.ownBlock <;> simp)
/-- Its cells. -/
theorem OwnK.cells {k : IntKind} {E : TypeId} {w : World} {base : Nat} {v : Value} {xs : List Int} (h : OwnK k E w base v xs) (h0 : 0 < xs.length) :
    ∃ g cap, v = .slice (some ⟨g, 0, none⟩) xs.length cap ∧ base ≤ g ∧ xs.length ≤ cap ∧ cap ≤ maxLen ∧ ∀ i, i < xs.length → w.cell? ⟨g, i, none⟩ = some (.int k (nth xs i)) := by
  obtain ⟨hl, ⟨rfl, e0⟩ | ⟨g, cap, cur, rfl, hbg, hg, hn, hm, hs, ht⟩⟩ := h
  · omega
  · refine ⟨g, cap, rfl, hbg, hn, hm, fun i hi => ?_⟩
    rw [cell_of_row _ _ _ _ _ _ hg]
    have h1 : (xs.map (Value.int k))[i]? = some (.int k (nth xs i)) := by simp [nth, List.getD, hi]
    rw [← ht, List.getElem?_take_of_lt (by omega)] at h1
    simpa using h1
/-- One number more. -/
theorem OwnK.push {P : Program} {k : IntKind} {E T : TypeId} {by_ : Nat} (ht : P.underlying T = some (.slice E)) (hinfo : (P.info? E).map (fun i => (i.zero, i.size, i.bytes)) = some (some (.int k 0), 1, by_)) (hby : by_ ≤ 8)
    {w : World} {base : Nat} {v : Value} {xs : List Int} (h : OwnK k E w base v xs) (hn : xs.length + 1 ≤ 1099511627776) (hbase : base ≤ w.heap.size) (x : Int) :
    ∃ q cap w', (Builtin.append_ #[T, T] T #[v, .slice (some ⟨w.heap.size, 0, none⟩) 1 1]).run P (w.alloc (.cells #[.int k x] E)) = .ok (.slice q (xs.length + 1) cap) w' ∧
      OwnK k E w' base (.slice q (xs.length + 1) cap) (xs ++ [x]) ∧ Below base w w' ∧ (w.alloc (.cells #[.int k x] E)).grownBy w' v.ownBlock := by
  obtain ⟨i, hi, hz0, hz1, hz2⟩ := info_parts hinfo
  have ho : OwnK k E (w.alloc (.cells #[.int k x] E)) base v xs := h.below ((Below.refl _ _).alloc (Nat.le_refl _) _)
  have hb : (xs.length + 1) * by_ ≤ 140737488355328 := Nat.le_trans (Nat.mul_le_mul_left _ hby) (by omega)
  have hm : xs.length + 1 ≤ maxLen := by unfold maxLen; omega
  obtain ⟨v', w', hr, hown, hg, hnil⟩ := run_append_own (P := P) (w.alloc (.cells #[.int k x] E)) base T T E i _ 1 by_ ht hi hz0 hz1 hz2 rfl (by decide) v xs.length _ ho ⟨w.heap.size, 0, none⟩ 1 1 [.int k x] rfl (cell_one_new w _ _) (by simp [Value.oneCell']) hm hb (by simp; omega)
  have hbel : Below base w w' := ((Below.refl base w).alloc hbase _).grown hg (by simp; omega) (fun j e => (World.ownsRow.lt ho j e).1)
  have hown' : OwnK k E w' base v' (xs ++ [x]) := by
    unfold OwnK
    rw [List.length_append, List.map_append]
    exact hown
  rcases hown.2 with ⟨rfl, h0⟩ | ⟨g, cap, cur, rfl, _⟩
  · omega
  · exact ⟨_, _, w', hr, hown', hbel, hg⟩
/-- An append whose run is known, in a plain region, of any kind of numbers. -/
theorem wpList_appK (T : TypeId) {ops : Array Oper} {rest : List Oper} {o : Oper} {a : Act} {w : World} {Q : Exit → Act → World → Prop} (hgd : o.guard = none) (s x : Operand)
    (ho : o.op = .call { callee := .builtin .append, args := #[s, x], argTypes := #[T, T] }) (hty : o.type = T) {v u v' : Value} {w' : World} (hs : a.eval s = v) (hx : a.eval x = u)
    (hr : (Builtin.append_ #[T, T] T #[v, u]).run Tryz.prog w = .ok v' w') (h : wpList Tryz.prog ops Q rest (a.put o.dst v') w') : wpList Tryz.prog ops Q (o :: rest) a w := by
  refine wpList_plain hgd fun K hK => ?_
  unfold Oper.wp execOp
  simp only [ho, hty, resolve, invoke, builtin, Sem.run_bind, Sem.run_pure, Result.andThen_ok, List.map_toArray, List.map_cons, List.map_nil, hs, hx, hr]
  exact hK _ _ h
open Go.RowKit
theorem info39 : (Tryz.prog.info? 111).map (fun i => (i.zero, i.size, i.bytes)) = some (some (.int .u32 0), 1, 4) := by kernel_rfl
theorem size62 (W : World) : (sizeOf (Tryz.prog.elem 31)).run Tryz.prog W = .ok 1 W := by kernel_rfl
/-- 'b[l:h]' of a slice of bytes. -/
theorem sl_lh (b o n cap l h : Nat) (zl zh : Int) (hzl : zl = l) (hzh : zh = h) (h1 : l ≤ h) (h2 : h ≤ cap) (hc : l < cap) (W : World) : (Instr.slice 31 (.slice (some ⟨b, o, none⟩) n cap) (some (.int .i64 zl)) (some (.int .i64 zh)) none).run Tryz.prog W =
    .ok (.slice (some ⟨b, o + l, none⟩) (h - l) (cap - l)) W := by
  subst hzl hzh
  rw [run_slice_lh W 31 (some ⟨b, o, none⟩) n cap (by kernel_rfl) .i64 .i64 l h (by omega) (by omega) (by omega), size62]
  simp only [Result.andThen, sliced, Int.toNat_natCast, Nat.mul_one]
  have e : cap ≠ l := by omega
  simp [e, addr_add]
theorem sees_part {w : World} {b o : Nat} {xs : List Int} (hb : Byt xs) (hc : ∀ i, i < xs.length → w.cell? ⟨b, o + i, none⟩ = some (.int .u8 (nth xs i))) (l n : Nat) (h : l + n ≤ xs.length) (hn : 0 < n) (cap : Nat) (hcap : n ≤ cap) (hcm : cap ≤ maxLen) :
    Sees w (.slice (some ⟨b, o + l, none⟩) n cap) ((xs.drop l).take n) := by
  have hl : ((xs.drop l).take n).length = n := by simp; omega
  refine ⟨(hb.drop l).take n, .inr (.inr ⟨b, o + l, cap, by rw [hl], fun e => ?_, by omega, hcm, fun i hi => ?_⟩)⟩
  · rw [e] at hl; simp at hl; omega
  · rw [hl] at hi
    rw [Nat.add_assoc, hc (l + i) (by omega)]
    simp [nth, List.getD, List.getElem?_take_of_lt hi, List.getElem?_drop]
/-- An append whose run is known, in a region that draws. -/
theorem step_app_run {P : Program} {ops : Array Oper} {o : Oper} {a : Act} {w : World} {K : Act → World → Prop} {Q : Exit → Act → World → Prop} {E : Prop} (hgd : o.guard = none) (d s : Operand) (T : TypeId)
    (ho : o.op = .call { callee := .builtin .append, args := #[d, s], argTypes := #[T, T] }) (hty : o.type = T) {x y v : Value} {w' : World} (hd : a.eval d = x) (hs : a.eval s = y) (hr : (Builtin.append_ #[T, T] T #[x, y]).run P w = .ok v w')
    (hK : K (a.put o.dst v) w') : if Region.wanted o (yielded ops a.tmps) = true then Oper.wp P o a w K Q else E := by
  have hw : Region.wanted o (yielded ops a.tmps) = true := by simp [Region.wanted, hgd]
  rw [if_pos hw]
  unfold Oper.wp
  simp only [execOp, ho, hty, resolve, invoke, builtin, Sem.run_bind, Sem.run_pure, Result.andThen_ok, List.map_toArray, List.map_cons, List.map_nil, hd, hs, hr]
  exact hK
theorem add4 (a b c d : Int) : IntKind.u32.wrap (IntKind.u32.wrap (IntKind.u32.wrap (a + b) + c) + d) = (a + b + c + d) % 4294967296 := by
  simp only [IntKind.wrap_u32]; omega
/-- New numbers of 32 digits that a call hands out. -/
def WordsP (w : World) (xs : List Int) (e : Ending) (w' : World) : Prop :=
  ∃ q cap, e = .returned (.slice q xs.length cap) ∧ OwnK .u32 111 w' w.heap.size (.slice q xs.length cap) xs ∧ Below w.heap.size w w'
set_option maxRecDepth 100000 in
set_option maxHeartbeats 4000000 in
theorem spread (b o cap : Nat) (B : List Int) (hB : B.length = 64) (hb : Byt B) (hcap : 64 ≤ cap) (hcm : cap ≤ maxLen) (w : World) (hc : ∀ i, i < 64 → w.cell? ⟨b, o + i, none⟩ = some (.int .u8 (nth B i))) :
    Calls Tryz.prog 77 #[.slice (some ⟨b, o, none⟩) 64 cap] w (WordsP w (wl B 64)) := by
  have hblk : b < w.heap.size := World.block_lt_of_cell? w _ (hc 0 (by omega))
  have HC := Lib.hid hc
  have HCAP := Lib.hid (And.intro hcap hcm)
  have HBB := Lib.hid (And.intro hB hb)
  clear hc hcap hcm hB hb
  go_enter Tryz.func77, Tryz.ntmps77
  go_wp2_with fail
  go_loopw [3, 4] (fun v vi wr => ∃ (k : Nat) (q : Option Addr) (c : Nat), k ≤ 16 ∧ vi = .int .i64 k ∧ v = .slice q k c ∧ OwnK .u32 111 wr w.heap.size (.slice q k c) (wl B k) ∧ Below w.heap.size w wr) (fun _ vi _ => 16 - (intOf vi).toNat)
  case atStart => exact ⟨0, none, 0, by omega, rfl, rfl, ownk_nil _ _ _ _, Below.refl _ _⟩
  case round =>
    obtain ⟨k, q, c, hk, rfl, rfl, ho, hbel⟩ := hrel
    by_cases hlt : k < 16
    · have hc' : ∀ i, i < B.length → wr.cell? ⟨b, o + i, none⟩ = some (.int .u8 (nth B i)) := fun i hi => by rw [hbel.cell (p := ⟨b, o + i, none⟩) hblk]; exact HC.out i (by rw [HBB.out.1] at hi; exact hi)
      have S := sees_part HBB.out.2 hc' (4 * k) 4 (by rw [HBB.out.1]; omega) (by omega) (cap - 4 * k) (by have := HCAP.out.1; omega) (by have := HCAP.out.2; omega)
      have hsl : ∀ W, (Instr.slice 31 (.slice (some ⟨b, o, none⟩) 64 cap) (some (.int .i64 (4 * (k : Int)))) (some (.int .i64 (4 * (k : Int) + 4))) none).run Tryz.prog W = .ok (.slice (some ⟨b, o + 4 * k, none⟩) 4 (cap - 4 * k)) W := fun W => by
        have := sl_lh b o 64 cap (4 * k) (4 * k + 4) (4 * (k : Int)) (4 * (k : Int) + 4) (by omega) (by omega) (by omega) (by have := HCAP.out.1; omega) (by have := HCAP.out.1; omega) W
        rw [show 4 * k + 4 - 4 * k = 4 by omega] at this; exact this
      have hnum := numI_part B (4 * k) 4 HBB.out.2 (by rw [HBB.out.1]; omega)
      have NW : Hid (nw B (wl B k) k = numI ((B.drop (4 * k)).take 4)) := if_pos hlt
      have hn0 : 0 ≤ numI ((B.drop (4 * k)).take 4) := hnum.1
      have hn1 : numI ((B.drop (4 * k)).take 4) ≤ 4294967295 := by have := hnum.2; omega
      obtain ⟨q1, c1, w1, hr, ho1, hb1, _⟩ := OwnK.push Tryz.underlying107 info39 (by omega) ho (by rw [wl_len]; omega) hbel.size (nw B (wl B k) k)
      rw [NW.out] at hr
      rw [wl_len] at hr ho1
      have NUM := Lib.hid (number _ _ (by simp; omega) wr S)
      have HR := Lib.hid hr
      have HO : Hid (OwnK .u32 111 w1 w.heap.size (.slice q1 (k + 1) c1) (wl B (k + 1))) := ho1
      have HB := Lib.hid (hbel.trans hb1)
      clear hr ho1 hb1 ho hbel S hnum hc'
      generalize numI ((B.drop (4 * k)).take 4) = x at *
      go_wp2_with fail
      refine NUM.out.mono ?_
      rintro e w' ⟨rfl, rfl⟩
      clear hsl
      go_wp2_with (at_builtin; refine wpList_appK 107 rfl _ _ rfl rfl rfl rfl HR.out ?_)
      go_roundw
      case rel => exact ⟨k + 1, q1, c1, by omega, by go_num, rfl, HO.out, HB.out⟩
      case measure => simp [intOf]; omega
    · have hk16 : 16 ≤ k := by omega
      have HO : Hid (∃ q' c', Value.slice q k c = Value.slice q' (0 + 16) c' ∧ OwnK .u32 111 wr w.heap.size (.slice q' (0 + 16) c') (wl B (0 + 16))) := by
        obtain rfl : k = 16 := by omega
        exact ⟨q, c, rfl, ho⟩
      have HB := Lib.hid hbel
      clear ho hbel
      go_wp2_with fail
      go_loopw [3, 5, 6, 7] (fun v vi _ _ wr => ∃ (n : Nat) (q : Option Addr) (c : Nat), n ≤ 48 ∧ vi = .int .i64 ((n : Int) + 16) ∧ v = .slice q (n + 16) c ∧ OwnK .u32 111 wr w.heap.size (.slice q (n + 16) c) (wl B (n + 16)) ∧ Below w.heap.size w wr) (fun _ vi _ _ _ => 64 - (intOf vi).toNat)
      case atStart =>
        obtain rfl : k = 16 := by omega
        obtain ⟨_, _, e, h⟩ := HO.out
        cases e
        exact ⟨0, q, c, by omega, rfl, rfl, h, HB.out⟩
      case round =>
        clear HO HB
        obtain ⟨n, q, c, hn, rfl, rfl, ho, hbel⟩ := hrel
        by_cases hlt : n < 48
        · obtain ⟨g, cap', hv, _, _, _, hcl⟩ := ho.cells (by rw [wl_len]; omega)
          rw [wl_len] at hv hcl
          simp only [Value.slice.injEq] at hv
          obtain ⟨rfl, _, rfl⟩ := hv
          have x0 := hcl n (by omega)
          have x1 := hcl (n + 1) (by omega)
          have x9 := hcl (n + 9) (by omega)
          have x14 := hcl (n + 14) (by omega)
          have hu := wl_u32 B HBB.out.1 HBB.out.2 (n + 16)
          have b0 := hu.nth n
          have b1 := hu.nth (n + 1)
          have b9 := hu.nth (n + 9)
          have b14 := hu.nth (n + 14)
          have NW : Hid (nw B (wl B (n + 16)) (n + 16) = (nth (wl B (n + 16)) n + sig0 (nth (wl B (n + 16)) (n + 1)) + nth (wl B (n + 16)) (n + 9) + sig1 (nth (wl B (n + 16)) (n + 14))) % 4294967296) := by
            show _ = _
            unfold nw
            rw [if_neg (by omega)]
            rfl
          have HO := Lib.hid ho
          have HB := Lib.hid hbel
          have W1 : wl B (n + 1 + 16) = wl B (n + 16) ++ [nw B (wl B (n + 16)) (n + 16)] := by rw [Nat.add_right_comm n 1 16]; rfl
          have HW1 := Lib.hid W1
          generalize nth (wl B (n + 16)) n = y0 at x0 b0 NW
          generalize nth (wl B (n + 16)) (n + 1) = y1 at x1 b1 NW
          generalize nth (wl B (n + 16)) (n + 9) = y9 at x9 b9 NW
          generalize nth (wl B (n + 16)) (n + 14) = y14 at x14 b14 NW
          obtain ⟨l0, h0⟩ := b0
          obtain ⟨l1, h1⟩ := b1
          obtain ⟨l9, h9⟩ := b9
          obtain ⟨l14, h14⟩ := b14
          clear ho hbel hu W1 hcl
          go_wp2_with fail
          go_quiet ((first | (go_at_call 91; exact Calls.quiet_of_same (dturn _ l1 h1 _ (by decide) (by decide) _)) | (go_at_call 93; exact Calls.quiet_of_same (dmove3 _ l1 h1 _))))
          obtain ⟨W, hW⟩ : ∃ W, W = wr.drewN nq := ⟨_, rfl⟩
          rw [← hW]
          have x0 : W.cell? ⟨g, n, none⟩ = some (.int .u32 y0) := by rw [hW]; simpa using x0
          have x9 : W.cell? ⟨g, n + 9, none⟩ = some (.int .u32 y9) := by rw [hW]; simpa using x9
          have x14 : W.cell? ⟨g, n + 14, none⟩ = some (.int .u32 y14) := by rw [hW]; simpa using x14
          have HO : Hid (OwnK .u32 111 W w.heap.size (.slice (some ⟨g, 0, none⟩) (n + 16) c) (wl B (n + 16))) := by rw [hW]; exact HO.out
          have HB : Hid (Below w.heap.size w W) := by rw [hW]; exact HB.out.trans ⟨rfl, rfl, rfl, Nat.le_refl _, fun _ _ => rfl⟩
          clear hW x1
          have j0 : (0 : Int) ≤ (n : Int) + 16 - 2 := by omega
          have j1 : (n : Int) + 16 - 2 < (n : Int) + 16 := by omega
          have j2 : ((n : Int) + 16 - 2).toNat = n + 14 := by omega
          go_wp2_with fail
          go_quiet ((first | (go_at_call 91; exact Calls.quiet_of_same (dturn _ l14 h14 _ (by decide) (by decide) _)) | (go_at_call 93; exact Calls.quiet_of_same (dmove10 _ l14 h14 _))))
          obtain ⟨W2, hW⟩ : ∃ W2, W2 = W.drewN nq := ⟨_, rfl⟩
          rw [← hW]
          have x0 : W2.cell? ⟨g, n, none⟩ = some (.int .u32 y0) := by rw [hW]; simpa using x0
          have x9 : W2.cell? ⟨g, n + 9, none⟩ = some (.int .u32 y9) := by rw [hW]; simpa using x9
          have HO : Hid (OwnK .u32 111 W2 w.heap.size (.slice (some ⟨g, 0, none⟩) (n + 16) c) (wl B (n + 16))) := by rw [hW]; exact HO.out
          have HB : Hid (Below w.heap.size w W2) := by rw [hW]; exact HB.out.trans ⟨rfl, rfl, rfl, Nat.le_refl _, fun _ _ => rfl⟩
          clear hW x14 j0 j1 j2
          have NS : Hid (nw B (wl B (n + 16)) (n + 16) = (y0 + y9 + bits .xor .u32 (bits .xor .u32 (rot 7 y1) (rot 18 y1)) (y1 / 8) + bits .xor .u32 (bits .xor .u32 (rot 17 y14) (rot 19 y14)) (y14 / 1024)) % 4294967296) := by
            show _ = _
            rw [NW.out, Int.add_right_comm y0 (sig0 y1) y9]; rfl
          obtain ⟨s0, hs0⟩ : ∃ s, s = bits .xor .u32 (bits .xor .u32 (rot 7 y1) (rot 18 y1)) (y1 / 8) := ⟨_, rfl⟩
          obtain ⟨s1, hs1⟩ : ∃ s, s = bits .xor .u32 (bits .xor .u32 (rot 17 y14) (rot 19 y14)) (y14 / 1024) := ⟨_, rfl⟩
          rw [← hs0, ← hs1] at NS ⊢
          clear hs0 hs1 NW
          have e1 : IntKind.i64.wrap (n : Int) = n := IntWalk.i64_in _ (by omega)
          have e2 : IntKind.i64.wrap ((n : Int) + 16 - 7) = (n : Int) + 9 := by rw [IntWalk.i64_in _ (by omega)]; omega
          have j1 : (n : Int) < (n : Int) + 16 := by omega
          have k0 : (0 : Int) ≤ (n : Int) + 9 := by omega
          have k1 : (n : Int) + 9 < (n : Int) + 16 := by omega
          have k2 : ((n : Int) + 9).toNat = n + 9 := by omega
          have ho2 : OwnK .u32 111 W2.drew w.heap.size (.slice (some ⟨g, 0, none⟩) (n + 16) c) (wl B (n + 16)) := HO.out
          have hb2 : Below w.heap.size w W2.drew := HB.out.trans ⟨rfl, rfl, rfl, Nat.le_refl _, fun _ _ => rfl⟩
          obtain ⟨q1, c1, w1, hr, ho1, hb1, _⟩ := OwnK.push Tryz.underlying107 info39 (by omega) ho2 (by rw [wl_len]; omega) hb2.size (IntKind.u32.wrap (IntKind.u32.wrap (IntKind.u32.wrap (y0 + y9) + s0) + s1))
          rw [wl_len] at hr ho1
          rw [add4 y0 y9 s0 s1, ← NS.out, ← HW1.out] at ho1
          have HR := Lib.hid hr
          have HO1 := Lib.hid ho1
          have HB1 := Lib.hid (hb2.trans hb1)
          clear hr ho1 hb1 ho2 hb2 HO HB
          go_wp2_with fail
          go_region_law (refine step_app_run rfl (.tmp 68) (.tmp 84) 107 rfl rfl rfl rfl HR.out ?_)
          all_goals
            go_wp2_with fail
            go_roundw
            case rel => exact ⟨n + 1, q1, c1, by omega, by go_num, by rw [Nat.add_right_comm n 1 16], by rw [Nat.add_right_comm n 1 16] at *; exact HO1.out, HB1.out⟩
            case measure => simp [intOf]; omega
        · obtain rfl : n = 48 := by omega
          have HO := Lib.hid ho
          have HB := Lib.hid hbel
          clear ho hbel
          go_wp2_with fail
          go_ret
          unfold WordsP
          rw [wl_len]
          exact ⟨q, c, rfl, HO.out, HB.out⟩
open Go.RowKit
theorem not32 (e : Int) (h0 : 0 ≤ e) (h1 : e ≤ 4294967295) : bits .xor .u32 IntKind.u32.max e = 4294967295 - e := by
  obtain ⟨n, rfl⟩ := Int.eq_ofNat_of_zero_le h0
  have e1 : bits .xor .u32 IntKind.u32.max (n : Int) = IntKind.u32.wrap ((BitVec.ofInt 32 (4294967295 : Int) ^^^ BitVec.ofInt 32 (n : Int)).toNat : Int) := rfl
  have e2 : BitVec.ofInt 32 (4294967295 : Int) = BitVec.allOnes 32 := by decide
  rw [e1, e2, BitVec.allOnes_xor, BitVec.toNat_not, BitVec.ofInt_natCast, BitVec.toNat_ofNat, IntKind.wrap_u32]
  omega
theorem add5 (a b c d e : Int) : IntKind.u32.wrap (IntKind.u32.wrap (IntKind.u32.wrap (IntKind.u32.wrap (a + b) + c) + d) + e) = (a + b + c + d + e) % 4294967296 := by
  simp only [IntKind.wrap_u32]; omega
theorem fin_lit (X : List Int) (s : St) : fin X s.list 8 = [(s.a + nth X 0) % 4294967296, (s.b + nth X 1) % 4294967296, (s.c + nth X 2) % 4294967296, (s.d + nth X 3) % 4294967296, (s.e + nth X 4) % 4294967296, (s.f + nth X 5) % 4294967296, (s.g + nth X 6) % 4294967296, (s.h + nth X 7) % 4294967296] := by
  simp [fin, List.range_succ, nth, St.list]
theorem ownk_lit (xs : List Int) (w : World) (cs : Array Value) (hcs : cs = ucells xs) (n : Nat) (hn : n = xs.length) (hm : n ≤ maxLen) : OwnK .u32 111 (w.alloc (.cells cs 111)) w.heap.size (.slice (some ⟨w.heap.size, 0, none⟩) n n) xs := by
  subst hcs hn
  exact ⟨by simp, .inr ⟨w.heap.size, xs.length, ucells xs, rfl, Nat.le_refl _, heap_alloc_new w _, Nat.le_refl _, hm, by simp [ucells], by rw [ucells, List.take_of_length_le (by simp)]⟩⟩
theorem OwnK.base {k : IntKind} {E : TypeId} {w : World} {b b' : Nat} {v : Value} {xs : List Int} (h : OwnK k E w b v xs) (hb : b' ≤ b) : OwnK k E w b' v xs := by
  obtain ⟨hl, h⟩ := h
  refine ⟨hl, ?_⟩
  rcases h with h | ⟨g, cap', cur, e1, e2, e3⟩
  · exact .inl h
  · exact .inr ⟨g, cap', cur, e1, Nat.le_trans hb e2, e3⟩
set_option maxRecDepth 100000 in
set_option maxHeartbeats 4000000 in
theorem takeD (X W K : List Int) (gx cx gw cw gk ck : Nat) (uX : U32 X) (uW : U32 W) (uK : U32 K) (w : World)
    (cX : ∀ i, i < 8 → w.cell? ⟨gx, i, none⟩ = some (.int .u32 (nth X i))) (cW : ∀ i, i < 64 → w.cell? ⟨gw, i, none⟩ = some (.int .u32 (nth W i))) (cK : ∀ i, i < 64 → w.cell? ⟨gk, i, none⟩ = some (.int .u32 (nth K i))) :
    Calls Tryz.prog 76 #[.slice (some ⟨gx, 0, none⟩) 8 cx, .slice (some ⟨gw, 0, none⟩) 64 cw, .slice (some ⟨gk, 0, none⟩) 64 ck] w (WordsP w (fin X (sts K W (toSt X) 64).list 8)) := by
  have x0 := cX 0 (by omega)
  have x1 := cX 1 (by omega)
  have x2 := cX 2 (by omega)
  have x3 := cX 3 (by omega)
  have x4 := cX 4 (by omega)
  have x5 := cX 5 (by omega)
  have x6 := cX 6 (by omega)
  have x7 := cX 7 (by omega)
  have lx : gx < w.heap.size := World.block_lt_of_cell? w _ x0
  have lw : gw < w.heap.size := World.block_lt_of_cell? w _ (cW 0 (by omega))
  have lk : gk < w.heap.size := World.block_lt_of_cell? w _ (cK 0 (by omega))
  have okX : (toSt X).ok := ⟨uX.nth 0, uX.nth 1, uX.nth 2, uX.nth 3, uX.nth 4, uX.nth 5, uX.nth 6, uX.nth 7⟩
  have CX := Lib.hid cX
  have CW := Lib.hid cW
  have CK := Lib.hid cK
  have UW := Lib.hid uW
  have UK := Lib.hid uK
  have OKX := Lib.hid okX
  have LX := Lib.hid lx
  have LW := Lib.hid lw
  have LK := Lib.hid lk
  clear cX cW cK uX uW uK okX lx lw lk
  go_enter Tryz.func76, Tryz.ntmps76
  go_wp2_with fail
  go_quiet (fail)
  obtain ⟨W0, hW⟩ : ∃ W0, W0 = w.drewN nq := ⟨_, rfl⟩
  rw [← hW]
  have HB0 : Hid (Below w.heap.size w W0) := by rw [hW]; exact (Below.refl _ _).trans ⟨rfl, rfl, rfl, Nat.le_refl _, fun _ _ => rfl⟩
  clear hW x0 x1 x2 x3 x4 x5 x6 x7
  go_wp2_with fail
  go_loopw [7, 8, 9, 10, 11, 12, 13, 14, 15, 16, 17, 18] (fun va vb vc vd ve vf vg vh vi _ _ _ wr => ∃ (k : Nat) (s : St), k ≤ 64 ∧ vi = .int .i64 k ∧ s = sts K W (toSt X) k ∧ va = .int .u32 s.a ∧ vb = .int .u32 s.b ∧ vc = .int .u32 s.c ∧ vd = .int .u32 s.d ∧ ve = .int .u32 s.e ∧ vf = .int .u32 s.f ∧ vg = .int .u32 s.g ∧ vh = .int .u32 s.h ∧ Below w.heap.size w wr) (fun _ _ _ _ _ _ _ _ vi _ _ _ _ => 64 - (intOf vi).toNat)
  case atStart => exact ⟨0, toSt X, by omega, rfl, rfl, rfl, rfl, rfl, rfl, rfl, rfl, rfl, rfl, HB0.out⟩
  case round =>
    clear HB0
    obtain ⟨k, s, hk, rfl, hs, rfl, rfl, rfl, rfl, rfl, rfl, rfl, rfl, hb⟩ := hrel
    have hok : s.ok := by rw [hs]; exact sts_ok K W _ OKX.out k
    by_cases hlt : k < 64
    · have hnext : step s (nth K k) (nth W k) = sts K W (toSt X) (k + 1) := by rw [hs]; rfl
      have ck0 : wr.cell? ⟨gk, k, none⟩ = some (.int .u32 (nth K k)) := by rw [hb.cell (p := ⟨gk, k, none⟩) LK.out]; exact CK.out k hlt
      have cw0 : wr.cell? ⟨gw, k, none⟩ = some (.int .u32 (nth W k)) := by rw [hb.cell (p := ⟨gw, k, none⟩) LW.out]; exact CW.out k hlt
      obtain ⟨⟨a0, a1⟩, ⟨b0, b1⟩, ⟨c0, c1⟩, ⟨d0, d1⟩, ⟨e0, e1⟩, ⟨f0, f1⟩, ⟨g0, g1⟩, ⟨h0, h1⟩⟩ := hok
      have HN := Lib.hid hnext
      have HB := Lib.hid hb
      have E1 : Hid (∀ x y z u v : Int, IntKind.u32.wrap (IntKind.u32.wrap (IntKind.u32.wrap (IntKind.u32.wrap (x + y) + z) + u) + v) = (x + y + z + u + v) % 4294967296) := add5
      have NT := Lib.hid (not32 s.e e0 e1)
      have kl : (k : Int) < 64 := by omega
      clear hnext hb hs
      obtain ⟨a, b, c, d, e, f, g, h⟩ := s
      simp only at *
      obtain ⟨kk, hkk⟩ : ∃ kk, kk = nth K k := ⟨_, rfl⟩
      obtain ⟨ww, hww⟩ : ∃ ww, ww = nth W k := ⟨_, rfl⟩
      rw [← hkk] at ck0 HN
      rw [← hww] at cw0 HN
      clear hkk hww
      go_wp2_with fail
      go_quiet ((go_at_call 91; exact Calls.quiet_of_same (dturn _ e0 e1 _ (by decide) (by decide) _)))
      obtain ⟨T1, hT1⟩ : ∃ T, T = (h + bs1 e + chs e f g + kk + ww) % 4294967296 := ⟨_, rfl⟩
      have hT : ((h + bits .xor .u32 (bits .xor .u32 (rot 6 e) (rot 11 e)) (rot 25 e) + bits .xor .u32 (bits .and .u32 e f) (bits .and .u32 (4294967295 - e) g) + kk) % 4294967296 + ww) % 4294967296 = T1 := by
        rw [hT1, bs1, chs, NT.out]; omega
      have HA : Hid ((step ⟨a, b, c, d, e, f, g, h⟩ kk ww).a = (T1 + (bits .xor .u32 (bits .xor .u32 (rot 2 a) (rot 13 a)) (rot 22 a) + bits .xor .u32 (bits .xor .u32 (bits .and .u32 a b) (bits .and .u32 a c)) (bits .and .u32 b c)) % 4294967296) % 4294967296) := by
        show _ = _
        rw [hT1]; rfl
      have HE : Hid ((step ⟨a, b, c, d, e, f, g, h⟩ kk ww).e = (d + T1) % 4294967296) := by
        show _ = _
        rw [hT1]; rfl
      have t0 : 0 ≤ T1 := by omega
      have t1 : T1 ≤ 4294967295 := by omega
      obtain ⟨W1, hW⟩ : ∃ W1, W1 = wr.drewN nq := ⟨_, rfl⟩
      rw [← hW]
      have HB1 : Hid (Below w.heap.size w W1) := by rw [hW]; exact HB.out.trans ⟨rfl, rfl, rfl, Nat.le_refl _, fun _ _ => rfl⟩
      clear hW hT1 ck0 cw0 NT E1 HB
      go_wp2_with fail
      rw [hT]
      clear hT
      refine (dturn a a0 a1 _ (by decide) (by decide) _).mono ?_
      rintro e' w' ⟨rfl, rfl⟩
      go_wp2_with fail
      refine (dturn a a0 a1 _ (by decide) (by decide) _).mono ?_
      rintro e' w' ⟨rfl, rfl⟩
      go_wp2_with fail
      refine (dturn a a0 a1 _ (by decide) (by decide) _).mono ?_
      rintro e' w' ⟨rfl, rfl⟩
      go_wp2_with fail
      go_roundw
      case rel => exact ⟨k + 1, step ⟨a, b, c, d, e, f, g, h⟩ kk ww, by omega, by go_num, HN.out, by rw [HA.out], rfl, rfl, rfl, by rw [HE.out], rfl, rfl, rfl, HB1.out⟩
      case measure => simp [intOf]; omega
    · have hk64 : 64 ≤ k := by omega
      have he : s = sts K W (toSt X) 64 := by rw [hs]; congr 1; omega
      have c0 := CX.out 0 (by omega)
      have c1 := CX.out 1 (by omega)
      have c2 := CX.out 2 (by omega)
      have c3 := CX.out 3 (by omega)
      have c4 := CX.out 4 (by omega)
      have c5 := CX.out 5 (by omega)
      have c6 := CX.out 6 (by omega)
      have c7 := CX.out 7 (by omega)
      have hbc : ∀ i, wr.cell? ⟨gx, i, none⟩ = w.cell? ⟨gx, i, none⟩ := fun i => hb.cell (p := ⟨gx, i, none⟩) LX.out
      rw [← hbc] at c0 c1 c2 c3 c4 c5 c6 c7
      have HB := Lib.hid hb
      have HEE := Lib.hid he
      have HF := Lib.hid (fin_lit X s)
      have kl : ¬ (k : Int) < 64 := by omega
      clear hbc hb he hs hok
      obtain ⟨a, b, c, d, e, f, g, h⟩ := s
      simp only at *
      go_wp2_with fail
      go_still_tail 40, (by kernel_rfl)
      change wpList _ _ _ _ _ wr.drew
      obtain ⟨W2, hW⟩ : ∃ W2, W2 = wr.drew := ⟨_, rfl⟩
      rw [← hW]
      have HB2 : Hid (Below w.heap.size w W2) := by rw [hW]; exact HB.out.trans ⟨rfl, rfl, rfl, Nat.le_refl _, fun _ _ => rfl⟩
      clear hW c0 c1 c2 c3 c4 c5 c6 c7 HB
      go_wp2_with fail
      go_ret
      unfold WordsP
      rw [fin_len, ← HEE.out]
      exact ⟨_, 8, rfl, (ownk_lit _ W2 _ (by rw [HF.out]; simp [ucells, Int.add_comm]) 8 (by rw [fin_len]) (by decide)).base HB2.out.size, HB2.out.alloc HB2.out.size _⟩
open Go.RowKit
theorem WordsP.mk {w : World} {xs : List Int} {n : Nat} {cs : Array Value} (hcs : cs = ucells xs) (hn : n = xs.length) (hm : n ≤ maxLen) : WordsP w xs (.returned (.slice (some ⟨w.heap.size, 0, none⟩) n n)) (w.alloc (.cells cs 111)) := by
  subst hn
  exact ⟨_, _, rfl, ownk_lit xs w cs hcs _ rfl hm, (Below.refl _ _).alloc (Nat.le_refl _) _⟩
set_option maxRecDepth 100000 in
theorem eightD (w : World) : Calls Tryz.prog 74 #[] w (WordsP w SQ) := by
  go_enter Tryz.func74, Tryz.ntmps74
  go_wp2
  go_ret
  exact WordsP.mk (by kernel_rfl) (by kernel_rfl) (by decide)
set_option maxRecDepth 100000 in
theorem sixtyD (w : World) : Calls Tryz.prog 75 #[] w (WordsP w KK) := by
  go_enter Tryz.func75, Tryz.ntmps75
  go_wp2
  go_ret
  exact WordsP.mk (by kernel_rfl) (by kernel_rfl) (by decide)
theorem bytes8 (v : Int) (h0 : 0 ≤ v) (h1 : v ≤ 18446744073709551615) (w : World) : Calls Tryz.prog 25 #[.int .u64 v, .int .i64 8] w (OwnP w (be 8 v)) := refBytes v 8 (by omega) h0 h1 w
theorem bytes4 (v : Int) (h0 : 0 ≤ v) (h1 : v ≤ 18446744073709551615) (w : World) : Calls Tryz.prog 25 #[.int .u64 v, .int .i64 4] w (OwnP w (be 4 v)) := refBytes v 4 (by omega) h0 h1 w
def lenOf : Value → Nat
  | .slice _ n _ => n
  | _ => 0
theorem Own.lower {w : World} {b b' : Nat} {v : Value} {xs : List Int} (h : Own w b v xs) (hb : b' ≤ b) : Own w b' v xs := by
  obtain ⟨h0, hl, h⟩ := h
  refine ⟨h0, hl, ?_⟩
  rcases h with h | ⟨g, cap', cur, e1, e2, e3⟩
  · exact .inl h
  · exact .inr ⟨g, cap', cur, e1, Nat.le_trans hb e2, e3⟩
/-- A filled text. -/
def fillD (xs : List Int) : List Int := xs ++ tail xs.length
theorem fillD_eq (xs : List Int) : fillD xs = (xs ++ [128] ++ List.replicate ((119 - xs.length % 64) % 64) 0) ++ be 8 (8 * (xs.length : Int)) := by simp [fillD, tail]
set_option maxRecDepth 100000 in
set_option maxHeartbeats 4000000 in
theorem filledD (v : Value) (xs : List Int) (hl : xs.length ≤ 1000000) (w : World) (h : Sees w v xs) : Calls Tryz.prog 73 #[v] w (OwnP w (fillD xs)) := by
  obtain ⟨x, cap, rfl, _⟩ := id h.form
  obtain ⟨n, hn⟩ : ∃ n, n = xs.length := ⟨_, rfl⟩
  have CP := Lib.hid (copy _ xs (by omega) w h)
  have HN := Lib.hid hn
  have HL := Lib.hid hl
  have hnl : n ≤ 1000000 := by omega
  have FD := Lib.hid (fillD_eq xs)
  rw [← hn]
  clear hn hl h
  go_enter Tryz.func73, Tryz.ntmps73
  go_wp2_with fail
  rw [HN.out]
  refine CP.out.mono ?_
  rintro e w1 ⟨x1, c1, rfl, ho1, hb1⟩
  rw [← HN.out] at ho1
  have hs1 : Sees (w1.alloc (.cells #[.int .u8 128] 5)) (.slice (some ⟨w1.heap.size, 0, none⟩) 1 1) [128] := sees_new w1 #[.int .u8 128] [128] rfl (fun z hz => by simp at hz; omega) (by simp [maxLen]) _ rfl 1 rfl
  have ba : Below w1.heap.size w1 (w1.alloc (.cells #[.int .u8 128] 5)) := (Below.refl _ _).alloc (Nat.le_refl _) _
  obtain ⟨x2, c2, w2, hr2, ho2, hg2, hb2⟩ := app (ho1.below ba) hs1 (by simp; have := HL.out; omega) (by have := hb1.size; simp; omega)
  rw [← HN.out] at hr2 ho2
  simp only [List.length_cons, List.length_nil, Nat.zero_add] at hr2 ho2
  have HR2 := Lib.hid hr2
  have HO2 := Lib.hid ho2
  have HB2 : Hid (Below w.heap.size w w2) := (hb1.trans (ba.mono hb1.size)).trans hb2
  rw [← HN.out]
  clear ho1 hb1 hs1 ba hr2 ho2 hg2 hb2
  go_wp2_with (at_builtin; refine wpList_app rfl (.tmp 5) (.tmp 6) rfl rfl rfl rfl HR2.out ?_)
  obtain ⟨r, hr⟩ : ∃ r, r = (119 - n % 64) % 64 := ⟨_, rfl⟩
  have hr1 : (n + 1 + r) % 64 = 56 := by omega
  have hr2 : ∀ j, j < r → (n + 1 + j) % 64 ≠ 56 := by intro j hj; omega
  have HRA := Lib.hid hr1
  have HRB := Lib.hid hr2
  have hr64 : r < 64 := by omega
  have HRR := Lib.hid hr
  clear hr hr1 hr2
  go_loopw [3] (fun v wr => ∃ (j : Nat) (q : Option Addr) (c : Nat), j ≤ r ∧ v = .slice q (n + 1 + j) c ∧ Own wr w.heap.size (.slice q (n + 1 + j) c) (xs ++ [128] ++ List.replicate j 0) ∧ Below w.heap.size w wr) (fun v _ => n + 1 + r - lenOf v)
  case atStart => exact ⟨0, x2, c2, by omega, rfl, by simpa using HO2.out, HB2.out⟩
  case round =>
    obtain ⟨j, q, c, hj, rfl, ho, hb⟩ := hrel
    by_cases hlt : j < r
    · have hs : Sees (wr.alloc (.cells #[.int .u8 0] 5)) (.slice (some ⟨wr.heap.size, 0, none⟩) 1 1) [0] := sees_new wr #[.int .u8 0] [0] rfl (fun z hz => by simp at hz; omega) (by simp [maxLen]) _ rfl 1 rfl
      have ba : Below wr.heap.size wr (wr.alloc (.cells #[.int .u8 0] 5)) := (Below.refl _ _).alloc (Nat.le_refl _) _
      have hlen : (xs ++ [128] ++ List.replicate j (0 : Int)).length = n + 1 + j := by simp [HN.out]; omega
      obtain ⟨x3, c3, w3, hr3, ho3, hg3, hb3⟩ := app (ho.below ba) hs (by rw [hlen]; simp; omega) (by have := hb.size; simp; omega)
      rw [hlen] at hr3 ho3
      simp only [List.length_cons, List.length_nil, Nat.zero_add] at hr3 ho3
      have e3 : xs ++ [128] ++ List.replicate j (0 : Int) ++ [0] = xs ++ [128] ++ List.replicate (j + 1) 0 := by rw [List.append_assoc, ← List.replicate_succ']
      rw [e3] at ho3
      have HR3 := Lib.hid hr3
      have HO3 := Lib.hid ho3
      have HB3 : Hid (Below w.heap.size w w3) := (hb.trans (ba.mono hb.size)).trans hb3
      obtain ⟨L, hL⟩ : ∃ L, L = n + 1 + j := ⟨_, rfl⟩
      have hm := HRB.out j hlt
      rw [← hL] at hm ⊢
      have hm1 : ((L : Int) % 64 == 56) = false := by simp; omega
      have hm2 : ((L : Int) % 64 != 56) = true := by simp; omega
      rw [← hL] at HR3
      have HLL := Lib.hid hL
      clear hs ba hlen hr3 ho3 hg3 hb3 e3 ho hb hm hL
      go_wp2_with (at_builtin; refine wpList_app rfl (.tmp 12) (.tmp 13) rfl rfl rfl rfl HR3.out ?_)
      go_roundw
      case rel => exact ⟨j + 1, x3, c3, by omega, by rw [HLL.out]; rfl, HO3.out, HB3.out⟩
      case measure => have := HLL.out; simp [lenOf]; omega
    · obtain rfl : j = r := by omega
      obtain ⟨L, hL⟩ : ∃ L, L = n + 1 + j := ⟨_, rfl⟩
      have hm := HRA.out
      rw [← hL] at hm ⊢
      have hm1 : ((L : Int) % 64 == 56) = true := by simp; omega
      have hm2 : ((L : Int) % 64 != 56) = false := by simp; omega
      have hlen : (xs ++ [128] ++ List.replicate j (0 : Int)).length = L := by simp [HN.out, hL]; omega
      rw [← hL] at ho
      have HO := Lib.hid ho
      have HB := Lib.hid hb
      have HLL := Lib.hid hlen
      have hLb : L ≤ 1000100 := by omega
      have HRL := Lib.hid HRR.out
      clear ho hb hm hL hlen
      go_wp2_with fail
      refine (bytes8 (8 * (n : Int)) (by omega) (by omega) wr).mono ?_
      rintro e w4 ⟨x4, c4, rfl, ho4, hb4⟩
      obtain ⟨x5, c5, w5, hr5, ho5, hg5, hb5⟩ := app (HO.out.below hb4) ho4.sees (by rw [HLL.out, be_len]; omega) (by have := HB.out.size; have := hb4.size; omega)
      rw [HLL.out, be_len] at hr5 ho5
      rw [be_len]
      have HR5 := Lib.hid hr5
      have HO5 := Lib.hid ho5
      have HB5 : Hid (Below w.heap.size w w5) := (HB.out.trans (hb4.mono HB.out.size)).trans hb5
      clear ho4 hb4 hr5 ho5 hg5 hb5 HO HB
      go_wp2_with (at_builtin; refine wpList_app rfl (.tmp 15) (.tmp 20) rfl rfl rfl rfl HR5.out ?_)
      go_ret
      have e5 : fillD xs = xs ++ [128] ++ List.replicate j 0 ++ be 8 (8 * (n : Int)) := by rw [FD.out, HRL.out, HN.out]
      have hl5 : (fillD xs).length = L + 8 := by rw [e5, List.length_append, HLL.out, be_len]
      unfold OwnP
      rw [hl5, e5]
      exact ⟨_, _, rfl, HO5.out, HB5.out⟩
open Go.RowKit
theorem chunk64 (s : HSt) (hB : s.B.length = 64) (h0 : s.n = 0) (ys : List Int) (hl : ys.length = 64) : puts s ys = ⟨comp s.H ys, ys, 0⟩ := by
  have h := puts_chunk ys s hB (by omega) (fun e => by rw [e] at hl; simp at hl) (by omega)
  have e : spl s.B s.n ys = ys := by rw [h0]; unfold spl; rw [List.take_zero, List.drop_eq_nil_of_le (by omega)]; simp
  rw [if_pos (by omega), e] at h
  exact h
/-- The hash behind k blocks. -/
def hk (all : List Int) (k : Nat) : HSt := puts h0 (all.take (64 * k))
theorem hk_next (all : List Int) (k : Nat) : hk all (k + 1) = puts (hk all k) ((all.drop (64 * k)).take 64) := by
  unfold hk
  rw [← puts_append, Nat.mul_succ, List.take_add]
theorem hk_ok (all : List Int) (m : Nat) (hl : all.length = 64 * m) : ∀ k, k ≤ m → (hk all k).n = 0 ∧ (hk all k).B.length = 64
  | 0, _ => by unfold hk; rw [Nat.mul_zero, List.take_zero]; exact ⟨rfl, by simp [puts, h0]⟩
  | k + 1, h => by
    obtain ⟨a, b⟩ := hk_ok all m hl k (by omega)
    have hy : ((all.drop (64 * k)).take 64).length = 64 := by simp; omega
    rw [hk_next, chunk64 _ b a _ hy]
    exact ⟨rfl, hy⟩
theorem hk_step (all : List Int) (m : Nat) (hl : all.length = 64 * m) (k : Nat) (h : k < m) : (hk all (k + 1)).H = comp (hk all k).H ((all.drop (64 * k)).take 64) := by
  obtain ⟨a, b⟩ := hk_ok all m hl k (by omega)
  rw [hk_next, chunk64 _ b a _ (by simp; omega)]
theorem hk_end (xs : List Int) (m : Nat) (hl : (fillD xs).length = 64 * m) : (((hk (fillD xs) m).H).map (be 4)).flatten = sha xs := by
  unfold hk
  rw [List.take_of_length_le (by omega)]
  unfold fillD sha sumOf
  rw [puts_append]
theorem fillD_len (xs : List Int) : ∃ m, (fillD xs).length = 64 * m ∧ 0 < m ∧ 64 * m ≤ xs.length + 100 := by
  refine ⟨(fillD xs).length / 64, ?_, ?_, ?_⟩ <;> (rw [fillD_eq]; simp [be_len]; omega)
theorem fillD_byt {xs : List Int} (h : Byt xs) : Byt (fillD xs) := h.append (tail_byt _)
theorem comp_fin (H B : List Int) : fin H (sts KK (wl B 64) (toSt H) 64).list 8 = comp H B := rfl
theorem hk_len (all : List Int) (hb : Byt all) (k : Nat) : (hk all k).H.length = 8 ∧ U32 (hk all k).H := by
  have := puts_ok (all.take (64 * k)) h0 h0_ok (hb.take _)
  exact ⟨this.1, this.2.1⟩
theorem Own.cells {w : World} {base : Nat} {v : Value} {xs : List Int} (h : Own w base v xs) (h0 : 0 < xs.length) :
    ∃ g cap, v = .slice (some ⟨g, 0, none⟩) xs.length cap ∧ base ≤ g ∧ xs.length ≤ cap ∧ cap ≤ maxLen ∧ ∀ i, i < xs.length → w.cell? ⟨g, i, none⟩ = some (.int .u8 (nth xs i)) := by
  obtain ⟨hb, hl, ⟨rfl, e0⟩ | ⟨g, cap, cur, rfl, hbg, hg, hn, hm, hs, ht⟩⟩ := h
  · omega
  · refine ⟨g, cap, rfl, hbg, hn, hm, fun i hi => ?_⟩
    rw [cell_of_row _ _ _ _ _ _ hg]
    have h1 : (xs.map (Value.int .u8))[i]? = some (.int .u8 (nth xs i)) := by simp [nth, List.getD, hi]
    rw [← ht, List.getElem?_take_of_lt (by omega)] at h1
    simpa using h1
set_option maxRecDepth 100000 in
set_option maxHeartbeats 4000000 in
theorem sumD (v : Value) (xs : List Int) (hl : xs.length ≤ 1000000) (w : World) (h : Sees w v xs) : Calls Tryz.prog 57 #[v] w (OwnP w (sha xs)) := by
  obtain ⟨m, hm, hm0, hml⟩ := fillD_len xs
  have hxb := h.1
  have hab : Byt (fillD xs) := fillD_byt hxb
  have FC := Lib.hid (filledD v xs hl w h)
  have HE : Hid ((((hk (fillD xs) m).H).map (be 4)).flatten = sha xs) := hk_end xs m hm
  have HST : Hid (∀ k, k < m → (hk (fillD xs) (k + 1)).H = comp (hk (fillD xs) k).H (((fillD xs).drop (64 * k)).take 64)) := hk_step _ m hm
  have HLE : Hid (∀ k, (hk (fillD xs) k).H.length = 8 ∧ U32 (hk (fillD xs) k).H) := hk_len _ hab
  have H0 : Hid ((hk (fillD xs) 0).H = SQ) := by show _ = _; unfold hk; rw [Nat.mul_zero, List.take_zero]; rfl
  have SL := Lib.hid (sha_len xs hxb)
  have HAB := Lib.hid hab
  have HM := Lib.hid hm
  have hmb : 64 * m ≤ 1000100 := by omega
  generalize fillD xs = all at *
  generalize sha xs = sm at *
  clear hm hxb hab hl h hml
  go_enter Tryz.func57, Tryz.ntmps57
  go_wp2_with fail
  refine FC.out.mono ?_
  rintro e w1 ⟨x1, c1, rfl, ho1, hb1⟩
  rw [HM.out] at ho1 ⊢
  have HO1 := Lib.hid ho1
  have HB1 := Lib.hid hb1
  clear ho1 hb1
  go_wp2_with fail
  refine (eightD w1).mono ?_
  rintro e w2 ⟨x2, c2, rfl, ho2, hb2⟩
  have HO1 := Lib.hid (HO1.out.below hb2)
  have HB2 : Hid (Below w.heap.size w w2) := HB1.out.trans (hb2.mono HB1.out.size)
  have HO2 := Lib.hid (ho2.base HB1.out.size)
  clear ho2 hb2 HB1
  rw [show SQ.length = 8 from rfl] at HO2 ⊢
  go_wp2_with fail
  refine (sixtyD w2).mono ?_
  rintro e w3 ⟨x3, c3, rfl, ho3, hb3⟩
  have HO1 := Lib.hid (HO1.out.below hb3)
  have HO2 := Lib.hid (HO2.out.below hb3)
  have HB3 : Hid (Below w.heap.size w w3) := HB2.out.trans (hb3.mono HB2.out.size)
  have hk64 : KK.length = 64 := by decide
  rw [hk64] at ho3 ⊢
  obtain ⟨gk, ck, hvk, _, _, _, hck⟩ := ho3.cells (by rw [hk64]; omega)
  rw [hk64] at hvk hck
  simp only [Value.slice.injEq] at hvk
  obtain ⟨rfl, _, rfl⟩ := hvk
  obtain ⟨ga, ca, hva, _, hcap, hcam, hca⟩ := HO1.out.cells (by rw [HM.out]; omega)
  rw [HM.out] at hva hca hcap
  simp only [Value.slice.injEq] at hva
  obtain ⟨rfl, _, rfl⟩ := hva
  have HCK := Lib.hid hck
  have HCA := Lib.hid hca
  have LK := Lib.hid (World.block_lt_of_cell? w3 _ (hck 0 (by omega)))
  have LA := Lib.hid (World.block_lt_of_cell? w3 _ (hca 0 (by omega)))
  have HCAP := Lib.hid (And.intro hcap hcam)
  clear ho3 hb3 HB2 hck hca hcap hcam hk64 HO1
  obtain ⟨L, hL⟩ : ∃ L, L = 64 * m := ⟨_, rfl⟩
  rw [← hL]
  have HL := Lib.hid hL
  clear hL
  go_wp2_with fail
  go_loopw [4, 6] (fun vh vi wr => ∃ (k i : Nat) (q : Option Addr) (c : Nat), k ≤ m ∧ i = 64 * k ∧ vi = .int .i64 i ∧ vh = .slice q 8 c ∧ OwnK .u32 111 wr w.heap.size (.slice q 8 c) (hk all k).H ∧ Below w3.heap.size w3 wr ∧ Below w.heap.size w wr) (fun _ vi _ => 64 * m - (intOf vi).toNat)
  case atStart => exact ⟨0, 0, x2, c2, by omega, rfl, rfl, rfl, by rw [H0.out]; exact HO2.out, Below.refl _ _, HB3.out⟩
  case round =>
    obtain ⟨k, i, q, c, hk', hi, rfl, rfl, ho, hb3, hb⟩ := hrel
    have HLk := HLE.out k
    obtain ⟨gx, cx, hvx, _, _, _, hcx⟩ := ho.cells (by rw [HLk.1]; omega)
    rw [HLk.1] at hvx hcx
    simp only [Value.slice.injEq] at hvx
    obtain ⟨rfl, _, rfl⟩ := hvx
    have HCX := Lib.hid hcx
    have LX := Lib.hid (World.block_lt_of_cell? wr _ (hcx 0 (by omega)))
    have HI := Lib.hid hi
    have HB := Lib.hid hb
    have HB3' := Lib.hid hb3
    by_cases hlt : k < m
    · have hiL : i < L := by rw [HL.out]; omega
      have hi64 : i + 64 ≤ L := by rw [HL.out]; omega
      have hLb : L ≤ 1000100 := by rw [HL.out]; omega
      have hsl : ∀ W, (Instr.slice 31 (.slice (some ⟨ga, 0, none⟩) L c1) (some (.int .i64 (i : Int))) (some (.int .i64 ((i : Int) + 64))) none).run Tryz.prog W = .ok (.slice (some ⟨ga, i, none⟩) 64 (c1 - i)) W := fun W => by
        have := sl_lh ga 0 L c1 i (i + 64) (i : Int) ((i : Int) + 64) rfl (by omega) (by omega) (by have := HCAP.out.1; rw [← HL.out] at this; omega) (by have := HCAP.out.1; rw [← HL.out] at this; omega) W
        rw [show i + 64 - i = 64 by omega, Nat.zero_add] at this; exact this
      obtain ⟨B, hBdef⟩ : ∃ B, B = (all.drop i).take 64 := ⟨_, rfl⟩
      have hBl : B.length = 64 := by rw [hBdef]; simp [HM.out]; omega
      have hBb : Byt B := by rw [hBdef]; exact (HAB.out.drop _).take _
      have hBc : ∀ j, j < 64 → wr.cell? ⟨ga, i + j, none⟩ = some (.int .u8 (nth B j)) := fun j hj => by
        rw [hb3.cell (p := ⟨ga, i + j, none⟩) LA.out, HCA.out (i + j) (by omega), hBdef]
        simp [nth, List.getD, List.getElem?_take_of_lt hj, List.getElem?_drop]
      have SP := Lib.hid (spread ga i (c1 - i) B hBl hBb (by have := HCAP.out.1; omega) (by have := HCAP.out.2; omega) wr hBc)
      have HN : Hid ((hk all (k + 1)).H = comp (hk all k).H B) := by show _ = _; rw [HST.out k hlt, hBdef, hi]
      have UB := Lib.hid (wl_u32 B hBl hBb 64)
      have hw64 := Lib.hid (wl_len B 64)
      clear hi hb3 hb ho hcx HLk hBl hBb hBc hBdef
      go_wp2_with fail
      refine SP.out.mono ?_
      rintro e w4 ⟨x4, c4, rfl, ho4, hb4⟩
      rw [hw64.out] at ho4 ⊢
      obtain ⟨gw, cw, hvw, _, _, _, hcw⟩ := ho4.cells (by rw [hw64.out]; omega)
      rw [hw64.out] at hvw hcw
      simp only [Value.slice.injEq] at hvw
      obtain ⟨rfl, _, rfl⟩ := hvw
      have TK := Lib.hid (takeD (hk all k).H (wl B 64) KK gx c gw c4 gk c3 (HLE.out k).2 UB.out kk_u32 w4 (fun j hj => by rw [hb4.cell (p := ⟨gx, j, none⟩) LX.out]; exact HCX.out j hj) hcw
        (fun j hj => by rw [hb4.cell (p := ⟨gk, j, none⟩) (Nat.lt_of_lt_of_le LK.out HB3'.out.size), HB3'.out.cell (p := ⟨gk, j, none⟩) LK.out]; exact HCK.out j hj))
      rw [comp_fin, ← HN.out] at TK
      have HB4 := Lib.hid (HB.out.trans (hb4.mono HB.out.size))
      have HB34 := Lib.hid (HB3'.out.trans (hb4.mono HB3'.out.size))
      clear ho4 hb4 hcw hsl
      go_wp2_with fail
      refine TK.out.mono ?_
      rintro e w5 ⟨x5, c5, rfl, ho5, hb5⟩
      have hl8 := (HLE.out (k + 1)).1
      rw [hl8] at ho5 ⊢
      have HO5 := Lib.hid (ho5.base HB4.out.size)
      have HB5 := Lib.hid (HB4.out.trans (hb5.mono HB4.out.size))
      have HB35 := Lib.hid (HB34.out.trans (hb5.mono HB34.out.size))
      clear ho5 hb5 hl8
      go_wp2_with fail
      go_roundw
      case rel => exact ⟨k + 1, i + 64, x5, c5, by omega, by rw [HI.out]; omega, by go_num, rfl, HO5.out, HB35.out, HB5.out⟩
      case measure => have := HI.out; simp [intOf]; omega
    · obtain rfl : k = m := by omega
      have hiL : ¬ i < L := by rw [HL.out]; omega
      obtain ⟨H, hH⟩ : ∃ H, H = (hk all k).H := ⟨_, rfl⟩
      have hH8 : H.length = 8 := by rw [hH]; exact HLk.1
      have hHu : U32 H := by rw [hH]; exact HLk.2
      rw [← hH] at hcx
      have HCX := Lib.hid hcx
      have HEE : Hid ((H.map (be 4)).flatten = sm) := by show _ = _; rw [hH]; exact HE.out
      have HU := Lib.hid hHu
      have HLEN := Lib.hid hH8
      clear hi hb3 hb ho hcx HLk hH hH8 hHu
      go_wp2_with fail
      obtain ⟨wo, rfl⟩ : ∃ wo : World, wo = wr := ⟨_, rfl⟩
      go_loopw [7, 8] (fun v vi wr => ∃ (j : Nat) (q : Option Addr) (c : Nat), j ≤ 8 ∧ vi = .int .i64 j ∧ v = .slice q (4 * j) c ∧ Own wr wo.heap.size (.slice q (4 * j) c) (((H.take j).map (be 4)).flatten) ∧ Below wo.heap.size wo wr) (fun _ vi _ => 8 - (intOf vi).toNat)
      case atStart => exact ⟨0, none, 0, by omega, rfl, rfl, own_nil _ _, Below.refl _ _⟩
      case round =>
        obtain ⟨j, q, c, hj, rfl, rfl, ho, hb⟩ := hrel
        have hfl : (((H.take j).map (be 4)).flatten).length = 4 * j := by rw [flat_len, List.length_take, HLEN.out]; omega
        by_cases hlt2 : j < 8
        · have hcell := (hb.cell (p := ⟨gx, j, none⟩) LX.out).trans (HCX.out j hlt2)
          have hu := HU.out.nth j
          have hnx : ((H.take (j + 1)).map (be 4)).flatten = ((H.take j).map (be 4)).flatten ++ be 4 (nth H j) := by
            rw [take_snoc H j (by rw [HLEN.out]; exact hlt2)]; simp
          obtain ⟨u0, u1⟩ := hu
          have HNX := Lib.hid hnx
          have HFL := Lib.hid hfl
          have HO := Lib.hid ho
          have HBq := Lib.hid hb
          clear hnx hfl ho hb
          generalize nth H j = y at *
          go_wp2_with fail
          refine (bytes4 y u0 (by omega) wr).mono ?_
          rintro e w4 ⟨x4, c4, rfl, ho4, hb4⟩
          obtain ⟨x5, c5, w5, hr5, ho5, hg5, hb5⟩ := app (HO.out.below hb4) ho4.sees (by rw [HFL.out, be_len]; omega) (by have := HBq.out.size; have := hb4.size; omega)
          rw [HFL.out, be_len] at hr5 ho5
          rw [be_len, ← HNX.out] at *
          have HR5 := Lib.hid hr5
          have HO5 := Lib.hid ho5
          have HB5 := Lib.hid ((HBq.out.trans (hb4.mono HBq.out.size)).trans hb5)
          clear ho4 hb4 hr5 ho5 hg5 hb5 HO HBq
          go_wp2_with (at_builtin; refine wpList_app rfl (.tmp 32) (.tmp 38) rfl rfl rfl rfl HR5.out ?_)
          go_roundw
          case rel => exact ⟨j + 1, x5, c5, by omega, by go_num, rfl, HO5.out, HB5.out⟩
          case measure => simp [intOf]; omega
        · obtain rfl : j = 8 := by omega
          rw [List.take_of_length_le (by rw [HLEN.out]; omega), HEE.out] at ho
          have HO := Lib.hid (ho.lower HB.out.size)
          have HBq := Lib.hid (HB.out.trans (hb.mono HB.out.size))
          clear ho hb hfl
          go_wp2_with fail
          go_ret
          unfold OwnP
          rw [SL.out]
          exact ⟨_, _, rfl, HO.out, HBq.out⟩
open Go.RowKit Go.WideShapes Go.ChangeAt
set_option maxRecDepth 100000 in
theorem cells22 : Tryz.prog.cellsOf 31 = 1 := by kernel_rfl
open Go.RowKit
set_option maxRecDepth 100000 in
theorem more {P : Program} {md : Region.Mode} {ops : Array Oper} {Q : Exit → Act → World → Prop} {S S' : World → Prop} (h : ∀ w, S' w → S w) :
    ∀ (fuel : Nat) (listed : Array Bool) (a : Act) (w : World), wpAnyH P md ops Q S' fuel listed a w → wpAnyH P md ops Q S fuel listed a w
  | 0, _, _, _, hh => hh
  | fuel + 1, _, _, _, hh => ⟨hh.1, fun i hi => wpOp_mono (fun a' w' h' => ⟨h w' h'.1, more h fuel _ a' w' h'.2⟩) (hh.2 i hi)⟩
open Go.RowKit
set_option maxRecDepth 100000 in
theorem own_apart {w : World} {b b' : Nat} {v u : Value} {xs ys : List Int} (h : Own w b v xs) (k : Own w b' u ys) (hx : 0 < xs.length) (hy : 0 < ys.length) (hne : nth xs 0 ≠ nth ys 0) : v.ownBlock ≠ u.ownBlock := by
  obtain ⟨g, c, rfl, _, _, _, h1⟩ := h.cells hx
  obtain ⟨g', c', rfl, _, _, _, h2⟩ := k.cells hy
  intro e
  simp only [Value.ownBlock, Option.some.injEq] at e
  subst e
  have a := h1 0 hx
  rw [h2 0 hy] at a
  simp only [Option.some.injEq, Value.int.injEq, true_and] at a
  exact hne a.symm
set_option maxRecDepth 100000 in
theorem xorb_ne : ∀ x : Int, 0 ≤ x ∧ x ≤ 255 → xorb 54 x ≠ xorb 92 x := by
  intro x hx
  obtain ⟨n, rfl⟩ := Int.eq_ofNat_of_zero_le hx.1
  have hn : n < 256 := by omega
  unfold xorb
  have key : ∀ m : Fin 256, bits .xor .u8 (m.val : Int) 54 ≠ bits .xor .u8 (m.val : Int) 92 := by decide +kernel
  exact key ⟨n, hn⟩
/-- The first i bytes of a pad. -/
def padk (L : List Int) (c : Int) (i : Nat) : List Int := (L.take i).map (xorb c)
set_option maxRecDepth 100000 in
theorem padk_len (L : List Int) (c : Int) (i : Nat) (h : i ≤ L.length) : (padk L c i).length = i := by simp [padk]; omega
set_option maxRecDepth 100000 in
theorem padk_next (L : List Int) (c : Int) (i : Nat) (h : i < L.length) : padk L c (i + 1) = padk L c i ++ [xorb c (nth L i)] := by unfold padk; rw [take_snoc L i h]; simp
set_option maxRecDepth 100000 in
theorem padk_nth (L : List Int) (c : Int) (i : Nat) (h : 0 < i) (hl : i ≤ L.length) : nth (padk L c i) 0 = xorb c (nth L 0) := by
  simp [padk, nth, List.getD, List.getElem?_take_of_lt h, show 0 < L.length by omega]
set_option maxRecDepth 100000 in
theorem padk_all (L : List Int) (c : Int) (h : L.length = 64) : padk L c 64 = L.map (xorb c) := by unfold padk; rw [List.take_of_length_le (by omega)]
set_option maxRecDepth 100000 in
theorem fill_nth (k : List Int) (i : Nat) : nth (fill k) i = if i < (short k).length then nth (short k) i else 0 := by
  unfold fill nth
  by_cases h : i < (short k).length
  · rw [if_pos h]; simp [List.getD, List.getElem?_append_left h]
  · rw [if_neg h]
    simp only [List.getD, List.getElem?_append_right (show (short k).length ≤ i by omega), List.getElem?_replicate]
    split <;> rfl
/-- What a round of the pads keeps. -/
def TwoPads (w0 wr : World) (L : List Int) (i : Nat) (q1 : Option Addr) (c1 : Nat) (q2 : Option Addr) (c2 : Nat) : Prop :=
  Own wr w0.heap.size (.slice q1 i c1) (padk L 54 i) ∧ Own wr w0.heap.size (.slice q2 i c2) (padk L 92 i) ∧ (i = 0 → q2 = none) ∧ Below w0.heap.size w0 wr
set_option maxRecDepth 100000 in
theorem TwoPads.next {w0 wr : World} {L : List Int} {i : Nat} {q1 q2 : Option Addr} {c1 c2 : Nat} (h : TwoPads w0 wr L i q1 c1 q2 c2) (hL : L.length = 64) (hb : Byt L) (hi : i < 64) (x : Int) (hx : x = nth L i) :
    ∃ p1 d1 w1 p2 d2 w2, (Builtin.append_ #[31, 31] 31 #[.slice q1 i c1, .slice (some ⟨wr.heap.size, 0, none⟩) 1 1]).run Tryz.prog (wr.alloc (.cells #[.int .u8 (bits .xor .u8 x 54)] 5)) = .ok (.slice p1 (i + 1) d1) w1 ∧
      (Builtin.append_ #[31, 31] 31 #[.slice q2 i c2, .slice (some ⟨w1.heap.size, 0, none⟩) 1 1]).run Tryz.prog (w1.alloc (.cells #[.int .u8 (bits .xor .u8 x 92)] 5)) = .ok (.slice p2 (i + 1) d2) w2 ∧ TwoPads w0 w2 L (i + 1) p1 d1 p2 d2 := by
  obtain ⟨o1, o2, h0, hbl⟩ := h
  have hxb : 0 ≤ x ∧ x ≤ 255 := by rw [hx]; exact hb.nth i
  have h0b := hb.nth 0
  have n1 := padk_next L 54 i (by omega)
  have n2 := padk_next L 92 i (by omega)
  have l1 := padk_len L 54 i (by omega)
  have l2 := padk_len L 92 i (by omega)
  have ba : Below wr.heap.size wr (wr.alloc (.cells #[.int .u8 (bits .xor .u8 x 54)] 5)) := (Below.refl _ _).alloc (Nat.le_refl _) _
  have s1 := five_sees (bits .xor .u8 x 54) wr (xorb_bd 54 x (by omega) hxb)
  obtain ⟨p1, d1, w1, r1, oo1, g1, b1⟩ := app (o1.below ba) s1 (by rw [l1]; simp; omega) (by have := hbl.size; simp; omega)
  rw [l1] at r1 oo1
  have oo1' : Own w1 w0.heap.size (.slice p1 (i + 1) d1) (padk L 54 (i + 1)) := by rw [n1, ← hx]; exact oo1
  have hap : (Value.slice q2 i c2).ownBlock = none ∨ (Value.slice q2 i c2).ownBlock ≠ (Value.slice q1 i c1).ownBlock := by
    by_cases hi0 : i = 0
    · left; rw [h0 hi0]; rfl
    · right
      exact fun e => own_apart o1 o2 (by omega) (by omega) (by rw [padk_nth L 54 i (by omega) (by omega), padk_nth L 92 i (by omega) (by omega)]; exact xorb_ne _ h0b) e.symm
  have o2a : Own w1 w0.heap.size (.slice q2 i c2) (padk L 92 i) := (o2.below ba).grown g1 hap
  have hb1 : Below w0.heap.size w0 w1 := (hbl.trans (ba.mono hbl.size)).trans b1
  have bb : Below w1.heap.size w1 (w1.alloc (.cells #[.int .u8 (bits .xor .u8 x 92)] 5)) := (Below.refl _ _).alloc (Nat.le_refl _) _
  have s2 := five_sees (bits .xor .u8 x 92) w1 (xorb_bd 92 x (by omega) hxb)
  obtain ⟨p2, d2, w2, r2, oo2, g2, b2⟩ := app (o2a.below bb) s2 (by rw [l2]; simp; omega) (by have := hb1.size; simp; omega)
  rw [l2] at r2 oo2
  have oo2' : Own w2 w0.heap.size (.slice p2 (i + 1) d2) (padk L 92 (i + 1)) := by rw [n2, ← hx]; exact oo2
  have l1' := padk_len L 54 (i + 1) (by omega)
  have hap2 : (Value.slice p1 (i + 1) d1).ownBlock = none ∨ (Value.slice p1 (i + 1) d1).ownBlock ≠ (Value.slice q2 i c2).ownBlock := by
    by_cases hi0 : i = 0
    · right
      obtain ⟨g, c, hv, _⟩ := oo1'.cells (by omega)
      rw [h0 hi0, l1'] at *
      rw [hv]; simp [Value.ownBlock]
    · right
      exact own_apart oo1' o2a (by omega) (by omega) (by rw [padk_nth L 54 (i + 1) (by omega) (by omega), padk_nth L 92 i (by omega) (by omega)]; exact xorb_ne _ h0b)
  exact ⟨p1, d1, w1, p2, d2, w2, r1, r2, (oo1'.below bb).grown g2 hap2, oo2', fun e => by omega, (hb1.trans (bb.mono hb1.size)).trans b2⟩
set_option maxRecDepth 100000 in
set_option maxHeartbeats 8000000 in
theorem macD (vk vb : Value) (k b : List Int) (w : World) (hk : Sees w vk k) (hb : Sees w vb b) (lk : k.length ≤ 100000) (lb : b.length ≤ 100000) : Calls Tryz.prog 36 #[vk, vb] w (OwnP w (mac k b)) := by
  obtain ⟨x1, c1, rfl, _⟩ := id hk.form
  obtain ⟨y1, d1, rfl, _⟩ := id hb.form
  have hfl := fill_len k hk.1
  have hfb := fill_byt k hk.1
  have hsl := short_le k hk.1
  have HMAC : Hid (mac k b = sha (padk (fill k) 92 64 ++ sha (padk (fill k) 54 64 ++ b))) := by show _ = _; rw [padk_all _ _ hfl, padk_all _ _ hfl]; rfl
  have SL := Lib.hid (mac_len k b hk.1)
  have SH : Hid (∀ xs, Byt xs → (sha xs).length = 32) := sha_len
  have L92 := Lib.hid (padk_len (fill k) 92 64 (by omega))
  have L54 := Lib.hid (padk_len (fill k) 54 64 (by omega))
  have HNE : Hid (nth (padk (fill k) 54 64) 0 ≠ nth (padk (fill k) 92 64) 0) := by
    show _ ≠ _
    rw [padk_nth _ 54 64 (by omega) (by omega), padk_nth _ 92 64 (by omega) (by omega)]; exact xorb_ne _ (hfb.nth 0)
  have HNX : Hid (∀ w0 wr i q1 c1 q2 c2, TwoPads w0 wr (fill k) i q1 c1 q2 c2 → i < 64 → ∀ x, x = nth (fill k) i → ∃ p1 d1 w1 p2 d2 w2, (Builtin.append_ #[31, 31] 31 #[.slice q1 i c1, .slice (some ⟨wr.heap.size, 0, none⟩) 1 1]).run Tryz.prog (wr.alloc (.cells #[.int .u8 (bits .xor .u8 x 54)] 5)) = .ok (.slice p1 (i + 1) d1) w1 ∧
      (Builtin.append_ #[31, 31] 31 #[.slice q2 i c2, .slice (some ⟨w1.heap.size, 0, none⟩) 1 1]).run Tryz.prog (w1.alloc (.cells #[.int .u8 (bits .xor .u8 x 92)] 5)) = .ok (.slice p2 (i + 1) d2) w2 ∧ TwoPads w0 w2 (fill k) (i + 1) p1 d1 p2 d2) := fun w0 wr i q1 c1 q2 c2 h hi x hx => h.next hfl hfb hi x hx
  have HFN : Hid (∀ i, nth (fill k) i = if i < (short k).length then nth (short k) i else 0) := fill_nth k
  have HSB : Hid (Byt (short k)) := short_byt k hk.1
  have LB := Lib.hid lb
  obtain ⟨L, hL⟩ : ∃ L, L = fill k := ⟨_, rfl⟩
  rw [← hL] at HMAC L92 L54 HNE HNX HFN
  by_cases h64 : 64 < k.length
  · have hss : short k = sha k := by unfold short; rw [if_pos h64]
    have SD := Lib.hid (sumD _ k (by omega) w hk)
    rw [← hss] at SD
    have h64' : (64 : Int) < k.length := by omega
    have HB := Lib.hid hb
    obtain ⟨S, hS⟩ : ∃ S, S = short k := ⟨_, rfl⟩
    rw [← hS] at SD HFN HSB hsl
    clear hfl hfb hk hb hss hS hL
    go_enter Tryz.func36, Tryz.ntmps36
    go_wp2_with fail
    refine SD.out.mono ?_
    rintro e wz ⟨x0, c0, rfl, hoz, hbz⟩
    have HSZ := Lib.hid hoz.sees
    have HBZ := Lib.hid hbz
    obtain ⟨m, hm⟩ : ∃ m, m = S.length := ⟨_, rfl⟩
    rw [← hm] at HSZ hsl ⊢
    have HM := Lib.hid hm
    have hmi : (m : Int) ≤ 64 := by omega
    clear hoz hbz hm
    go_wp2_with fail
    go_loopw [5, 6, 7, 8] (fun v5 v6 vi _ wr => ∃ (i : Nat) (q1 : Option Addr) (d1 : Nat) (q2 : Option Addr) (d2 : Nat), i ≤ 64 ∧ vi = .int .i64 i ∧ v5 = .slice q1 i d1 ∧ v6 = .slice q2 i d2 ∧ TwoPads wz wr L i q1 d1 q2 d2) (fun _ _ vi _ _ => 64 - (intOf vi).toNat)
    case atStart => exact ⟨0, none, 0, none, 0, by omega, rfl, rfl, rfl, own_nil _ _, own_nil _ _, fun _ => rfl, Below.refl _ _⟩
    case round =>
      obtain ⟨i, q1, d1, q2, d2, hi, rfl, rfl, rfl, htp⟩ := hrel
      have HTP := Lib.hid htp
      have hbw := htp.2.2.2
      have SZ := Lib.hid (HSZ.out.below hbw)
      clear htp hbw
      by_cases hlt : i < 64
      · by_cases hin : i < m
        · obtain ⟨p1, e1, w1, p2, e2, w2, r1, r2, tp⟩ := HNX.out _ _ _ _ _ _ _ HTP.out hlt (nth S i) (by rw [HFN.out, if_pos (by rw [← HM.out]; exact hin)])
          have R1 := Lib.hid r1
          have R2 := Lib.hid r2
          have TP := Lib.hid tp
          have hcell : ∃ b' o', x0 = some ⟨b', o', none⟩ ∧ wr.cell? ⟨b', o' + i, none⟩ = some (.int .u8 (nth S i)) := by
            obtain ⟨_, ⟨_, h⟩ | ⟨_, _, _, h, _⟩ | ⟨b', o', cap, h, _, _, _, hc⟩⟩ := SZ.out
            · rw [h] at HM; have := HM.out; simp at this; omega
            · rw [h] at HM; have := HM.out; simp at this; omega
            · simp only [Value.slice.injEq] at h
              exact ⟨b', o', h.1, hc i (by rw [← HM.out]; exact hin)⟩
          obtain ⟨b', o', rfl, hc⟩ := hcell
          have hbd := HSB.out.nth i
          obtain ⟨y0, y1⟩ := hbd
          clear r1 r2 tp
          generalize nth S i = y at *
          go_wp2_with (first
            | (at_builtin; refine wpList_app rfl (.tmp 26) (.tmp 29) rfl rfl rfl rfl R1.out ?_)
            | (at_builtin; refine wpList_app rfl (.tmp 31) (.tmp 34) rfl rfl rfl rfl R2.out ?_))
          go_roundw
          case rel => exact ⟨i + 1, p1, e1, p2, e2, by omega, by go_num, rfl, rfl, TP.out⟩
          case measure => simp [intOf]; omega
        · obtain ⟨p1, e1, w1, p2, e2, w2, r1, r2, tp⟩ := HNX.out _ _ _ _ _ _ _ HTP.out hlt 0 (by rw [HFN.out, if_neg (by rw [← HM.out]; exact hin)])
          have R1 := Lib.hid r1
          have R2 := Lib.hid r2
          have TP := Lib.hid tp
          clear r1 r2 tp
          have x54 : bits .xor .u8 0 54 = 54 := by kernel_rfl
          have x92 : bits .xor .u8 0 92 = 92 := by kernel_rfl
          rw [x54] at R1
          rw [x92] at R2
          go_wp2_with (first
            | (at_builtin; refine wpList_app rfl (.tmp 26) (.tmp 29) rfl rfl rfl rfl R1.out ?_)
            | (at_builtin; refine wpList_app rfl (.tmp 31) (.tmp 34) rfl rfl rfl rfl R2.out ?_))
          go_roundw
          case rel => exact ⟨i + 1, p1, e1, p2, e2, by omega, by go_num, rfl, rfl, TP.out⟩
          case measure => simp [intOf]; omega
      · obtain rfl : i = 64 := by omega
        obtain ⟨o1, o2, _, hbw⟩ := HTP.out
        have hbz := HBZ.out.trans (hbw.mono HBZ.out.size)
        obtain ⟨p1, e1, w1, r1, oo1, g1, b1⟩ := app o1 (HB.out.below hbz) (by rw [L54.out]; omega) hbw.size
        rw [L54.out] at r1 oo1
        have hbz1 : Below wz.heap.size wz w1 := hbw.trans b1
        have oo2 : Own w1 wz.heap.size (.slice q2 64 d2) (padk L 92 64) := o2.grown g1 (.inr (fun e => own_apart o1 o2 (by rw [L54.out]; omega) (by rw [L92.out]; omega) HNE.out e.symm))
        have R1 := Lib.hid r1
        have O1 := Lib.hid oo1
        have O2 := Lib.hid oo2
        have BZ1 := Lib.hid hbz1
        have BL := Lib.hid LB.out
        clear o1 o2 hbw hbz r1 oo1 g1 b1 hbz1 oo2 HTP SZ
        go_wp2_with (at_builtin; refine wpList_app rfl (.tmp 37) (.tmp 38) rfl rfl rfl rfl R1.out ?_)
        refine (sumD _ _ (by rw [List.length_append, L54.out]; omega) _ O1.out.sees).mono ?_
        rintro e w2 ⟨x2, c2, rfl, ho2, hb2⟩
        have hl2 := SH.out _ O1.out.1
        obtain ⟨p3, e3, w3, r3, oo3, g3, b3⟩ := app (O2.out.below hb2) ho2.sees (by rw [L92.out, hl2]; omega) (by have := BZ1.out.size; have := hb2.size; omega)
        rw [L92.out, hl2] at r3
        rw [L92.out] at oo3
        rw [hl2] at ⊢ oo3
        have R3 := Lib.hid r3
        have O3 := Lib.hid oo3
        have BZ3 : Hid (Below wz.heap.size wz w3) := (BZ1.out.trans (hb2.mono BZ1.out.size)).trans b3
        clear ho2 hb2 r3 oo3 g3 b3
        go_wp2_with (at_builtin; refine wpList_app rfl (.tmp 36) (.tmp 40) rfl rfl rfl rfl R3.out ?_)
        refine (sumD _ _ (by rw [List.length_append, L92.out, hl2]; omega) _ O3.out.sees).mono ?_
        rintro e w4 ⟨x4, c4, rfl, ho4, hb4⟩
        rw [← HMAC.out] at ho4 ⊢
        have O4 := Lib.hid ho4
        have B4 : Hid (Below w.heap.size w w4) := HBZ.out.trans ((BZ3.out.trans (hb4.mono BZ3.out.size)).mono HBZ.out.size)
        have BZ4 : Hid (w.heap.size ≤ w3.heap.size) := Nat.le_trans HBZ.out.size BZ3.out.size
        clear ho4 hb4
        go_wp2_with fail
        go_ret
        exact ⟨_, _, rfl, O4.out.lower BZ4.out, B4.out⟩
  · have hss : short k = k := by unfold short; rw [if_neg h64]
    have h64' : ¬ (64 : Int) < k.length := by omega
    have HB := Lib.hid hb
    have HSZ := Lib.hid hk
    obtain ⟨m, hm⟩ : ∃ m, m = k.length := ⟨_, rfl⟩
    rw [← hm] at HSZ h64' ⊢
    obtain ⟨x0, hx0⟩ : ∃ x0, x0 = x1 := ⟨_, rfl⟩
    subst hx0
    obtain ⟨S, hS⟩ : ∃ S, S = short k := ⟨_, rfl⟩
    rw [hss] at hS
    rw [hss] at HFN HSB hsl
    have HM : Hid (m = k.length) := hm
    obtain ⟨wz, hwz⟩ : ∃ wz, wz = w := ⟨_, rfl⟩
    have HBZ : Hid (Below w.heap.size w wz) := by rw [hwz]; exact Below.refl _ _
    rw [← hwz] at HSZ ⊢
    rw [← hS] at HFN HSB HM HSZ
    have HWZ := Lib.hid hwz
    clear hfl hfb hk hb hss hS hm hwz hL
    go_enter Tryz.func36, Tryz.ntmps36
    go_wp2_with fail
    go_loopw [5, 6, 7, 8] (fun v5 v6 vi _ wr => ∃ (i : Nat) (q1 : Option Addr) (d1 : Nat) (q2 : Option Addr) (d2 : Nat), i ≤ 64 ∧ vi = .int .i64 i ∧ v5 = .slice q1 i d1 ∧ v6 = .slice q2 i d2 ∧ TwoPads wz wr L i q1 d1 q2 d2) (fun _ _ vi _ _ => 64 - (intOf vi).toNat)
    case atStart => exact ⟨0, none, 0, none, 0, by omega, rfl, rfl, rfl, own_nil _ _, own_nil _ _, fun _ => rfl, Below.refl _ _⟩
    case round =>
      obtain ⟨i, q1, d1, q2, d2, hi, rfl, rfl, rfl, htp⟩ := hrel
      have HTP := Lib.hid htp
      have hbw := htp.2.2.2
      have SZ := Lib.hid (HSZ.out.below hbw)
      clear htp hbw
      by_cases hlt : i < 64
      · by_cases hin : i < m
        · obtain ⟨p1, e1, w1, p2, e2, w2, r1, r2, tp⟩ := HNX.out _ _ _ _ _ _ _ HTP.out hlt (nth S i) (by rw [HFN.out, if_pos (by rw [← HM.out]; exact hin)])
          have R1 := Lib.hid r1
          have R2 := Lib.hid r2
          have TP := Lib.hid tp
          have hcell : ∃ b' o', x0 = some ⟨b', o', none⟩ ∧ wr.cell? ⟨b', o' + i, none⟩ = some (.int .u8 (nth S i)) := by
            obtain ⟨_, ⟨_, h⟩ | ⟨_, _, _, h, _⟩ | ⟨b', o', cap, h, _, _, _, hc⟩⟩ := SZ.out
            · rw [h] at HM; have := HM.out; simp at this; omega
            · rw [h] at HM; have := HM.out; simp at this; omega
            · simp only [Value.slice.injEq] at h
              exact ⟨b', o', h.1, hc i (by rw [← HM.out]; exact hin)⟩
          obtain ⟨b', o', rfl, hc⟩ := hcell
          have hbd := HSB.out.nth i
          obtain ⟨y0, y1⟩ := hbd
          clear r1 r2 tp
          generalize nth S i = y at *
          go_wp2_with (first
            | (at_builtin; refine wpList_app rfl (.tmp 26) (.tmp 29) rfl rfl rfl rfl R1.out ?_)
            | (at_builtin; refine wpList_app rfl (.tmp 31) (.tmp 34) rfl rfl rfl rfl R2.out ?_))
          go_roundw
          case rel => exact ⟨i + 1, p1, e1, p2, e2, by omega, by go_num, rfl, rfl, TP.out⟩
          case measure => simp [intOf]; omega
        · obtain ⟨p1, e1, w1, p2, e2, w2, r1, r2, tp⟩ := HNX.out _ _ _ _ _ _ _ HTP.out hlt 0 (by rw [HFN.out, if_neg (by rw [← HM.out]; exact hin)])
          have R1 := Lib.hid r1
          have R2 := Lib.hid r2
          have TP := Lib.hid tp
          clear r1 r2 tp
          have x54 : bits .xor .u8 0 54 = 54 := by kernel_rfl
          have x92 : bits .xor .u8 0 92 = 92 := by kernel_rfl
          rw [x54] at R1
          rw [x92] at R2
          go_wp2_with (first
            | (at_builtin; refine wpList_app rfl (.tmp 26) (.tmp 29) rfl rfl rfl rfl R1.out ?_)
            | (at_builtin; refine wpList_app rfl (.tmp 31) (.tmp 34) rfl rfl rfl rfl R2.out ?_))
          go_roundw
          case rel => exact ⟨i + 1, p1, e1, p2, e2, by omega, by go_num, rfl, rfl, TP.out⟩
          case measure => simp [intOf]; omega
      · obtain rfl : i = 64 := by omega
        obtain ⟨o1, o2, _, hbw⟩ := HTP.out
        have hbz := HBZ.out.trans (hbw.mono HBZ.out.size)
        obtain ⟨p1, e1, w1, r1, oo1, g1, b1⟩ := app o1 (HB.out.below hbz) (by rw [L54.out]; omega) hbw.size
        rw [L54.out] at r1 oo1
        have hbz1 : Below wz.heap.size wz w1 := hbw.trans b1
        have oo2 : Own w1 wz.heap.size (.slice q2 64 d2) (padk L 92 64) := o2.grown g1 (.inr (fun e => own_apart o1 o2 (by rw [L54.out]; omega) (by rw [L92.out]; omega) HNE.out e.symm))
        have R1 := Lib.hid r1
        have O1 := Lib.hid oo1
        have O2 := Lib.hid oo2
        have BZ1 := Lib.hid hbz1
        have BL := Lib.hid LB.out
        clear o1 o2 hbw hbz r1 oo1 g1 b1 hbz1 oo2 HTP SZ
        go_wp2_with (at_builtin; refine wpList_app rfl (.tmp 37) (.tmp 38) rfl rfl rfl rfl R1.out ?_)
        refine (sumD _ _ (by rw [List.length_append, L54.out]; omega) _ O1.out.sees).mono ?_
        rintro e w2 ⟨x2, c2, rfl, ho2, hb2⟩
        have hl2 := SH.out _ O1.out.1
        obtain ⟨p3, e3, w3, r3, oo3, g3, b3⟩ := app (O2.out.below hb2) ho2.sees (by rw [L92.out, hl2]; omega) (by have := BZ1.out.size; have := hb2.size; omega)
        rw [L92.out, hl2] at r3
        rw [L92.out] at oo3
        rw [hl2] at ⊢ oo3
        have R3 := Lib.hid r3
        have O3 := Lib.hid oo3
        have BZ3 : Hid (Below wz.heap.size wz w3) := (BZ1.out.trans (hb2.mono BZ1.out.size)).trans b3
        clear ho2 hb2 r3 oo3 g3 b3
        go_wp2_with (at_builtin; refine wpList_app rfl (.tmp 36) (.tmp 40) rfl rfl rfl rfl R3.out ?_)
        refine (sumD _ _ (by rw [List.length_append, L92.out, hl2]; omega) _ O3.out.sees).mono ?_
        rintro e w4 ⟨x4, c4, rfl, ho4, hb4⟩
        rw [← HMAC.out] at ho4 ⊢
        have O4 := Lib.hid ho4
        have B4 : Hid (Below w.heap.size w w4) := HBZ.out.trans ((BZ3.out.trans (hb4.mono BZ3.out.size)).mono HBZ.out.size)
        have BZ4 : Hid (w.heap.size ≤ w3.heap.size) := Nat.le_trans HBZ.out.size BZ3.out.size
        clear ho4 hb4
        go_wp2_with fail
        go_ret
        rw [HWZ.out]
        exact ⟨_, _, rfl, O4.out.lower BZ4.out, B4.out⟩
set_option maxRecDepth 100000 in
set_option maxHeartbeats 1000000 in
theorem extract (vk vb : Value) (k b : List Int) (w : World) (hk : Sees w vk k) (hb : Sees w vb b) (lk : k.length ≤ 562949953421312) (lb : b.length ≤ 562949953421312) (hG : Glob w) :
    Calls Tryz.prog 26 #[vk, vb] w fun e w' => e = .returned (.agg (bcells (mac k b))) ∧ Below w.heap.size w w' := by
  obtain ⟨x1, c1, rfl, _⟩ := id hk.form
  obtain ⟨x2, c2, rfl, _⟩ := id hb.form
  have z48 : ∀ w, (zeroValue 23).run Tryz.prog w = .ok (.agg (bcells (List.replicate 32 0))) w := fun _ => by kernel_rfl
  obtain ⟨Z48, hZ48⟩ : ∃ Z, Z = bcells (List.replicate 32 0) := ⟨_, rfl⟩
  rw [← hZ48] at z48
  have h2 : 2 ≤ w.heap.size := by have := hG.lt; omega
  have hB0 : Below w.heap.size w (w.alloc (.cells Z48 23)) := (Below.refl _ _).alloc (Nat.le_refl _) _
  have hB1 : Below w.heap.size w ((w.alloc (.cells Z48 23)).alloc (.cells #[.slice x2 b.length c2] 31)) := hB0.alloc hB0.size _
  have lM : (mac k b).length = 32 := mac_len k b hk.1
  have MK := Lib.hid (mark _ k (w.heap.size + 1) 1 [.slice x2 b.length c2] [b] ((w.alloc (.cells Z48 23)).alloc (.cells #[.slice x2 b.length c2] 31)) (hk.below hB1) lk (by
    have := lit1 (w.alloc (.cells Z48 23)) _ b (hb.below hB0)
    simpa using this) (by simp) (by simpa using lb) (hG.below hB1 h2))
  rw [show [b].flatten = b by simp] at MK
  have IM := Lib.hid (i48' _ lM)
  have ZM := Lib.hid (show Z48.size = (bcells (mac k b)).size by rw [hZ48, bsize, bsize, lM, List.length_replicate])
  have OM := Lib.hid (bone (mac k b))
  have HB1 := Lib.hid hB1
  have K1 := Lib.hid (show ((w.alloc (.cells Z48 23)).alloc (.cells #[.slice x2 b.length c2] 31)).heap[w.heap.size]? = some (.cells Z48 23 (0, 0)) by rw [Below.heap_alloc _ _ _ (by simp)]; exact heap_alloc_new w _)
  clear hZ48 h2 hB0 hB1 lM hk hb hG
  go_enter Tryz.func26, Tryz.ntmps26
  go_wp2_with fail
  refine MK.out.mono ?_
  rintro e w1 ⟨rfl, hb⟩
  have k2 : w1.heap[w.heap.size]? = some (.cells Z48 23 (0, 0)) := by rw [hb.block _ (blk_lt K1.out)]; exact K1.out
  have HB2 : Hid (Below w.heap.size w w1) := HB1.out.trans (hb.mono HB1.out.size)
  clear hb
  go_wp2_with (refine wpList_store_row rfl 23 _ _ rfl w.heap.size (bcells (mac k b)) rfl rfl 23 Z48 k2 IM.out ZM.out OM.out ?_)
  refine bodyPost_ret (v := .agg (bcells (mac k b))) (results_cell_row Tryz.results26 _ _ w.heap.size 23 _ (0, 0) _ rfl (setRow_heap _ _ _ _ _ _ k2) Tryz.underlying23 rfl IM.out) rfl ⟨rfl, ?_⟩
  exact HB2.out.trans (below_row _ _ (Nat.le_refl _))
open Go.RowKit
set_option maxRecDepth 100000 in
theorem Own.in_heap {w : World} {base : Nat} {v : Value} {xs : List Int} (h : Own w base v xs) (k : Nat) (e : v.ownBlock = some k) : k < w.heap.size := by
  obtain ⟨_, _, ⟨rfl, _⟩ | ⟨g, cap, cur, rfl, _, hg, _⟩⟩ := h
  · simp [Value.ownBlock] at e
  · simp only [Value.ownBlock, Option.some.injEq] at e
    rw [← e]; exact blk_lt hg
set_option maxRecDepth 100000 in
set_option maxHeartbeats 8000000 in
theorem streamD (vk vn : Value) (key name : List Int) (n : Nat) (hn : n ≤ 255) (w : World) (hk : Sees w vk key) (hv : Sees w vn name) (lk : key.length ≤ 1000) (ln : name.length ≤ 1000) :
    Calls Tryz.prog 24 #[vk, vn, .int .i64 n] w (OwnP w (tstr key name n)) := by
  obtain ⟨x1, c1, rfl, _⟩ := id hk.form
  obtain ⟨x2, c2, rfl, _⟩ := id hv.form
  have HK := Lib.hid hk
  have HV := Lib.hid hv
  have LK := Lib.hid lk
  have LN := Lib.hid ln
  have TL : Hid (∀ i, (tstr key name i).length = 32 * i) := tstr_len key name hk.1
  have TP : Hid (∀ i, (tpart key name i).length ≤ 32) := fun i => by
    cases i with
    | zero => simp [tpart]
    | succ i => rw [tpart_len key name hk.1 i]; omega
  have TP1 : Hid (∀ i, (tpart key name (i + 1)).length = 32) := tpart_len key name hk.1
  have TN : Hid (∀ i, tstr key name (i + 1) = tstr key name i ++ tpart key name (i + 1)) := fun _ => rfl
  have TM : Hid (∀ i, tpart key name (i + 1) = mac key (tpart key name i ++ name ++ [((i + 1 : Nat) : Int)])) := fun _ => rfl
  clear hk hv lk ln
  go_enter Tryz.func24, Tryz.ntmps24
  go_wp2_with fail
  go_loopw [7, 8, 9, 10] (fun v7 v8 vi _ wr => ∃ (j i : Nat) (q : Option Addr) (c : Nat) (p : Option Addr) (d l : Nat), j ≤ n ∧ i = j + 1 ∧ vi = .int .i64 i ∧ v7 = .slice q (32 * j) c ∧ v8 = .slice p l d ∧ l = (tpart key name j).length ∧ Own wr w.heap.size (.slice q (32 * j) c) (tstr key name j) ∧ Sees wr (.slice p l d) (tpart key name j) ∧ Below w.heap.size w wr) (fun _ _ vi _ _ => n + 1 - (intOf vi).toNat)
  case atStart => exact ⟨0, 1, none, 0, none, 0, 0, by omega, rfl, rfl, rfl, rfl, rfl, own_nil _ _, sees_nil _, Below.refl _ _⟩
  case round =>
    obtain ⟨j, i, q, c, p, d, l, hj, hi, rfl, rfl, rfl, hl, ho, hs, hb⟩ := hrel
    by_cases hlt : j < n
    · have hin : (i : Int) ≤ n := by omega
      have hi0 : (0 : Int) ≤ i := by omega
      have hi255 : (i : Int) ≤ 255 := by omega
      have hl32 := TP.out j
      have CP := Lib.hid (copy _ _ (by omega) wr hs)
      have HLN := LN.out
      have HLK := LK.out
      have HO := Lib.hid ho
      have HB := Lib.hid hb
      have HL := Lib.hid hl
      have HI := Lib.hid hi
      have hlb : l ≤ 32 := by omega
      clear ho hs hb hl hi
      generalize hT : tpart key name j = T at *
      have HT := Lib.hid hT
      clear hT
      go_wp2_with fail
      refine CP.out.mono ?_
      rintro e w1 ⟨y1, e1, rfl, ho1, hb1⟩
      have B1 := Lib.hid (HB.out.trans (hb1.mono HB.out.size))
      rw [← HL.out] at ho1 ⊢
      obtain ⟨y2, e2, w2, r2, oo2, g2, b2⟩ := app ho1 (HV.out.below B1.out) (by have := HL.out; omega) hb1.size
      rw [← HL.out] at r2 oo2
      have R2 := Lib.hid r2
      have B12 : Hid (Below wr.heap.size wr w2) := hb1.trans b2
      have O2 := Lib.hid oo2
      clear ho1 hb1 r2 oo2 g2 b2
      have ba : Below w2.heap.size w2 (w2.alloc (.cells #[.int .u8 (i : Int)] 5)) := (Below.refl _ _).alloc (Nat.le_refl _) _
      have s1 := five_sees (i : Int) w2 ⟨hi0, hi255⟩
      have hl2 : (T ++ name).length = l + name.length := by rw [List.length_append, HL.out]
      obtain ⟨y3, e3, w3, r3, oo3, g3, b3⟩ := app (O2.out.below ba) s1 (by rw [hl2]; simp; omega) (by have := B12.out.size; simp; omega)
      rw [hl2] at r3 oo3
      simp only [List.length_cons, List.length_nil, Nat.zero_add] at r3 oo3
      have R3 := Lib.hid r3
      have B13 : Hid (Below wr.heap.size wr w3) := (B12.out.trans (ba.mono B12.out.size)).trans b3
      have O3 := Lib.hid oo3
      have M3 := Lib.hid (macD _ _ _ _ w3 (HK.out.below (HB.out.trans (B13.out.mono HB.out.size))) oo3.sees (by omega) (by simp; have := HL.out; omega))
      have HM3 : Hid (mac key (T ++ name ++ [(i : Int)]) = tpart key name (j + 1)) := by show _ = _; rw [TM.out, HT.out, HI.out]
      rw [HM3.out] at M3
      clear ba s1 r3 oo3 g3 b3
      have hwr : IntKind.u8.wrap (i : Int) = i := by rw [IntKind.wrap_u8]; omega
      go_wp2_with (first
        | (at_builtin; refine wpList_app rfl (.tmp 17) (.tmp 18) rfl rfl rfl rfl R2.out ?_)
        | (at_builtin; refine wpList_app rfl (.tmp 21) (.tmp 24) rfl rfl rfl rfl R3.out ?_))
      refine M3.out.mono ?_
      rintro e w4 ⟨y4, e4, rfl, ho4, hb4⟩
      have hl4 := TP1.out j
      have B14 : Below wr.heap.size wr w4 := B13.out.trans (hb4.mono B13.out.size)
      have oo := HO.out.below B14
      obtain ⟨y5, e5, w5, r5, oo5, g5, b5⟩ := app oo ho4.sees (by rw [TL.out, hl4]; omega) (by have := HB.out.size; have := B14.size; omega)
      rw [TL.out, hl4] at r5 oo5
      rw [← TN.out] at oo5
      have s5 : Sees w5 (.slice y4 (tpart key name (j + 1)).length e4) (tpart key name (j + 1)) := by
        refine ho4.sees.grown g5 (fun k e e' => ?_)
        have h1 := (ho4.2.lt k e').1
        have h2 := HO.out.in_heap k e
        have h3 := B13.out.size
        omega
      rw [hl4] at s5 ⊢
      have R5 := Lib.hid r5
      have O5 := Lib.hid oo5
      have S5 := Lib.hid s5
      have B5 : Hid (Below w.heap.size w w5) := (HB.out.trans (B14.mono HB.out.size)).trans b5
      have L5 : Hid (32 = (tpart key name (j + 1)).length) := hl4.symm
      clear ho4 hb4 hl4 B14 oo r5 oo5 g5 b5 s5
      go_wp2_with (at_builtin; refine wpList_app rfl (.tmp 27) (.tmp 28) rfl rfl rfl rfl R5.out ?_)
      go_roundw
      case rel => exact ⟨j + 1, i + 1, y5, e5, y4, e4, 32, by omega, by have := HI.out; omega, by go_num, rfl, rfl, L5.out, O5.out, S5.out, B5.out⟩
      case measure => have := HI.out; simp [intOf]; omega
    · obtain rfl : j = n := by omega
      have hin : ¬ (i : Int) ≤ j := by omega
      have HO := Lib.hid ho
      have HB := Lib.hid hb
      clear ho hs hb hl hi
      go_wp2_with fail
      go_ret
      unfold OwnP
      rw [TL.out]
      exact ⟨_, _, rfl, HO.out, HB.out⟩
open Go.RowKit
set_option maxRecDepth 100000 in
theorem tstr_strm (key name : List Int) (hk : Byt key) (n p : Nat) (hp : p ≤ 255) (h : n ≤ 32 * p) : (tstr key name p).take n = strm key name n := by
  obtain ⟨r, hr⟩ := tstr_more key name p (255 - p)
  rw [show p + (255 - p) = 255 by omega] at hr
  unfold strm
  rw [hr, List.take_append_of_le_length (by rw [tstr_len key name hk]; exact h)]
/-- A string that was made bytes: a row that bears the run-time's mark. -/
def SRow (w : World) (base : Nat) (v : Value) (xs : List Int) : Prop :=
  Byt xs ∧ ∃ g cap C, v = .slice (some ⟨g, 0, none⟩) xs.length cap ∧ base ≤ g ∧ xs.length ≤ cap ∧ cap ≤ maxLen ∧ w.heap[g]? = some (.cells C 5 (cap, cap + 1)) ∧ C.size = cap ∧ C.toList.take xs.length = xs.map (Value.int .u8)
set_option maxRecDepth 100000 in
theorem str_cells (xs : List Int) (hb : Byt xs) : ((strOfNums xs).data.map fun b => Value.int .u8 b.toNat).toList = xs.map (Value.int .u8) ∧ (strOfNums xs).size = xs.length := by
  have e1 : (strOfNums xs).data.toList = tob xs := by rw [← ByteArray.toList_eq]; exact strOfNums_toList xs
  have hl : (strOfNums xs).size = xs.length := by
    have := congrArg List.length e1
    simpa [tob] using this
  refine ⟨?_, hl⟩
  rw [Array.toList_map, e1]
  unfold tob
  rw [List.map_map]
  apply List.map_congr_left
  intro x hx
  have := hb x hx
  simp only [Function.comp_def]
  congr 1
  simp
  omega
set_option maxRecDepth 100000 in
theorem conv_str (w : World) (xs : List Int) (hb : Byt xs) (hl : xs.length ≤ 1099511627776) : ∃ v w', (convert 9 31 (.string (strOfNums xs))).run Tryz.prog w = .ok v w' ∧ SRow w' w.heap.size v xs ∧ Below w.heap.size w w' := by
  have h := run_bytes_of_string (P := Tryz.prog) w 9 31 5 (strOfNums xs) Tryz.underlying9 Tryz.underlying31 Tryz.underlying5
  obtain ⟨h1, h2⟩ := str_cells xs hb
  have hge := grownCap_ge w (strOfNums xs).size 0 5
  have hle := grownCap_le_maxLen w (strOfNums xs).size 0 5 (by rw [h2]; unfold maxLen; omega)
  have hsz : (bytesRow (strOfNums xs) (grownCap w (strOfNums xs).size 0 5)).size = grownCap w (strOfNums xs).size 0 5 := by
    have : ((strOfNums xs).data.map fun b => Value.int .u8 b.toNat).size = (strOfNums xs).size := by rw [Array.size_map]; rfl
    unfold bytesRow; rw [Array.size_append, this, Array.size_replicate]; omega
  rw [hsz] at h
  refine ⟨_, _, h, ⟨hb, w.heap.size, grownCap w (strOfNums xs).size 0 5, _, by rw [h2], Nat.le_refl _, by omega, hle, heap_alloc_new w.drew _, hsz, ?_⟩, ?_⟩
  · unfold bytesRow
    rw [Array.toList_append, h1, List.take_append_of_le_length (by simp), List.take_of_length_le (by simp)]
  · exact ((Below.refl w.heap.size w).drew).alloc (Nat.le_refl _) _
set_option maxRecDepth 100000 in
theorem SRow.sees {w : World} {base : Nat} {v : Value} {xs : List Int} (h : SRow w base v xs) : Sees w v xs := by
  obtain ⟨hb, g, cap, C, rfl, _, hn, hm, hg, hs, ht⟩ := h
  refine ⟨hb, ?_⟩
  by_cases h0 : xs = []
  · subst h0; exact .inr (.inl ⟨_, _, rfl, rfl, hm⟩)
  · refine .inr (.inr ⟨g, 0, cap, rfl, h0, hn, hm, fun i hi => ?_⟩)
    rw [cell_of_row _ _ _ _ _ _ hg, Nat.zero_add]
    have h1 : (xs.map (Value.int .u8))[i]? = some (.int .u8 (nth xs i)) := by simp [nth, List.getD, hi]
    rw [← ht, List.getElem?_take_of_lt hi] at h1
    simpa using h1
set_option maxRecDepth 100000 in
theorem SRow.below {w w' : World} {base : Nat} {v : Value} {xs : List Int} (h : SRow w base v xs) (hb : Below w.heap.size w w') : SRow w' base v xs := by
  obtain ⟨h0, g, cap, C, h1, h2, h3, h4, h5, h6⟩ := h
  exact ⟨h0, g, cap, C, h1, h2, h3, h4, by rw [hb.block _ (blk_lt h5)]; exact h5, h6⟩
set_option maxRecDepth 100000 in
theorem below_setCells {base g : Nat} {w0 : World} (hg : base ≤ g) : ∀ (vs : List Value) (o : Nat) (w : World), Below base w0 w → Below base w0 (w.setCells g o vs)
  | [], _, _, h => h
  | _ :: r, o, _, h => below_setCells hg r (o + 1) _ (h.setCell hg _)
set_option maxRecDepth 100000 in
/-- Bytes put behind such a row. -/
theorem app_str {w : World} {base : Nat} {v u : Value} {xs ys : List Int} (h : SRow w base v xs) (hs : Sees w u ys) (hn : xs.length + ys.length ≤ 1099511627776) (hy : ys ≠ []) (hbase : base ≤ w.heap.size) :
    ∃ x cap w', (Builtin.append_ #[31, 31] 31 #[v, u]).run Tryz.prog w = .ok (.slice x (xs.length + ys.length) cap) w' ∧ Sees w' (.slice x (xs.length + ys.length) cap) (xs ++ ys) ∧ Below base w w' := by
  obtain ⟨hb, g, cap, C, rfl, hbg, hle, hm, hg, hsz, ht⟩ := h
  obtain ⟨i, hi, hz0, hz1, hz2⟩ := info_parts info5
  obtain ⟨hyb, ⟨_, e⟩ | ⟨_, _, _, e, _⟩ | ⟨b, o, c2, rfl, _, h4, h5, h6⟩⟩ := hs
  · exact absurd e hy
  · exact absurd e hy
  have hnews : ∀ j u, (ys.map (Value.int .u8))[j]? = some u → w.cell? ((⟨b, o, none⟩ : Addr).add j) = some u := fun j u hj => by
    have hjl : j < ys.length := by
      rcases Nat.lt_or_ge j ys.length with h | h
      · exact h
      · simp [List.getElem?_eq_none (show (ys.map (Value.int .u8)).length ≤ j by simpa using h)] at hj
    rw [addr_add, h6 j hjl, ← hj]
    simp [nth, List.getD, hjl]
  have holds : ∀ j u, (xs.map (Value.int .u8))[j]? = some u → w.cell? ((⟨g, 0, none⟩ : Addr).add j) = some u := fun j u hj => by
    have hjl : j < xs.length := by
      rcases Nat.lt_or_ge j xs.length with h | h
      · exact h
      · simp [List.getElem?_eq_none (show (xs.map (Value.int .u8)).length ≤ j by simpa using h)] at hj
    rw [addr_add, cell_of_row _ _ _ _ _ _ hg, Nat.zero_add]
    rw [← ht, List.getElem?_take_of_lt hjl] at hj
    simpa using hj
  by_cases hroom : xs.length + ys.length ≤ cap
  · have hin : ∀ j, j < (ys.map (Value.int .u8)).length → (w.cell? ⟨g, 0 + xs.length * i.size + j, none⟩).isSome = true := fun j hj => by
      rw [cell_of_row _ _ _ _ _ _ hg, hz1]
      simp at hj ⊢
      omega
    have hr := run_append_room_cells (P := Tryz.prog) w 31 31 5 i Tryz.underlying31 hi g 0 xs.length cap ⟨b, o, none⟩ ys.length c2 (ys.map (Value.int .u8)) (by simp [hz1]) hnews (by simp [Value.oneCell']) hroom hin
      (fun j hj => by simp [World.frozen?, hg]; rw [hz1]; simp at hj; omega)
    refine ⟨_, _, _, hr, ⟨hb.append hyb, .inr (.inr ⟨g, 0, cap, by simp, by simp [hy], by simpa using hroom, hm, fun j hj => ?_⟩)⟩, below_setCells hbg _ _ _ (Below.refl _ _)⟩
    rw [Nat.zero_add]
    rw [hz1] at *
    simp only [Nat.mul_one, Nat.zero_add] at *
    by_cases hjx : j < xs.length
    · rw [World.cell?_setCells_out g _ _ _ _ (fun _ _ => .inl hjx)]
      have := holds j (.int .u8 (nth xs j)) (by simp [nth, List.getD, hjx])
      rw [addr_add, Nat.zero_add] at this
      rw [this]
      simp [nth, List.getD, List.getElem?_append_left hjx]
    · obtain ⟨k, rfl⟩ : ∃ k, j = xs.length + k := ⟨j - xs.length, by omega⟩
      have hk : k < ys.length := by simp at hj; omega
      rw [World.cell?_setCells_in g _ _ _ hin k (by simpa using hk)]
      simp [nth, List.getD, hk]
  · obtain ⟨v', w', hr, ho, hgr⟩ := run_append_arg_grows (P := Tryz.prog) w 31 31 5 i _ 1 1 Tryz.underlying31 hi hz0 hz1 hz2 rfl (by decide) ⟨g, 0, none⟩ xs.length cap (xs.map (Value.int .u8)) (by simp) holds ⟨b, o, none⟩ ys.length c2 (ys.map (Value.int .u8)) (by simp) hnews (by omega) (by unfold maxLen; omega) (by omega)
    have hown : Own w' w.heap.size v' (xs ++ ys) := ⟨hb.append hyb, by simpa using ho⟩
    have hbel : Below base w w' := (Below.refl base w).grown hgr hbase (fun k e => by cases e)
    rcases ho.2 with ⟨_, h0⟩ | ⟨g', cap', cur, rfl, _⟩
    · exact absurd (List.length_eq_zero_iff.1 (show ys.length = 0 by omega)) hy
    · have := hown.sees
      exact ⟨_, _, w', hr, this, hbel⟩
set_option maxRecDepth 100000 in
theorem stream1 (vk vn : Value) (key name : List Int) (w : World) (hk : Sees w vk key) (hv : Sees w vn name) (lk : key.length ≤ 1000) (ln : name.length ≤ 1000) :
    Calls Tryz.prog 24 #[vk, vn, .int .i64 1] w (OwnP w (tstr key name 1)) := streamD vk vn key name 1 (by omega) w hk hv lk ln
set_option maxRecDepth 100000 in
set_option maxHeartbeats 4000000 in
theorem deriveD (vk : Value) (key name : List Int) (num : Int) (hnum : 0 ≤ num ∧ num ≤ 18446744073709551615) (w : World) (hk : Sees w vk key) (hv : Byt name) (lk : key.length ≤ 1000) (ln : name.length ≤ 900) :
    Calls Tryz.prog 11 #[vk, .string (strOfNums name), .int .u64 num] w (OwnP w (tstr key (name ++ be 8 num) 1)) := by
  obtain ⟨x1, c1, rfl, _⟩ := id hk.form
  obtain ⟨v1, w1, r1, s1, b1⟩ := conv_str w name hv (by omega)
  have S1 := Lib.hid s1
  have B1 := Lib.hid b1
  have HK := Lib.hid hk
  obtain ⟨n0, n1⟩ := hnum
  clear s1 b1 hk
  go_enter Tryz.func11, Tryz.ntmps11
  go_wp2_with fail
  clear r1
  refine (bytes8 num n0 n1 w1).mono ?_
  rintro e w2 ⟨x2, c2, rfl, ho2, hb2⟩
  have B2 := Lib.hid (B1.out.trans (hb2.mono B1.out.size))
  obtain ⟨x3, c3, w3, r3, s3, b3⟩ := app_str (S1.out.below hb2) ho2.sees (by rw [be_len]; omega) (by intro e; have := congrArg List.length e; rw [be_len] at this; simp at this) B2.out.size
  have R3 := Lib.hid r3
  have S3 := Lib.hid s3
  have B3 : Hid (Below w.heap.size w w3) := B2.out.trans b3
  clear ho2 hb2 r3 s3 b3
  go_wp2_with (at_builtin; refine wpList_app rfl (.tmp 9) (.tmp 11) rfl rfl rfl rfl R3.out ?_)
  refine (stream1 _ _ key (name ++ be 8 num) w3 (HK.out.below B3.out) S3.out (by omega) (by rw [List.length_append, be_len]; omega)).mono ?_
  rintro e w4 ⟨x4, c4, rfl, ho4, hb4⟩
  have O4 := Lib.hid (ho4.lower B3.out.size)
  have B4 : Hid (Below w.heap.size w w4) := B3.out.trans (hb4.mono B3.out.size)
  clear ho4 hb4
  go_wp2_with fail
  go_ret
  exact ⟨_, _, rfl, O4.out, B4.out⟩
open Go.RowKit
set_option maxRecDepth 100000 in
/-- A conversion whose run is known, in a region that draws. -/
theorem step_conv_run {P : Program} {ops : Array Oper} {o : Oper} {a : Act} {w : World} {K : Act → World → Prop} {Q : Exit → Act → World → Prop} {E : Prop} (hgd : o.guard = none) (x : Operand) (src dst : TypeId)
    (ho : o.op = .convert src dst x) {v u : Value} {w' : World} (hx : a.eval x = v) (hr : (convert src dst v).run P w = .ok u w')
    (hK : K (a.put o.dst u) w') : if Region.wanted o (yielded ops a.tmps) = true then Oper.wp P o a w K Q else E := by
  have hw : Region.wanted o (yielded ops a.tmps) = true := by simp [Region.wanted, hgd]
  rw [if_pos hw]
  unfold Oper.wp execOp
  simp only [ho, hx, Sem.run_bind, Sem.run_pure, Result.andThen_ok, hr]
  exact hK
/-- What the region of Derive keeps: all that was there, the key's row and the result's. -/
def SK (w : World) (C Z : Array Value) (W : World) : Prop :=
  Below w.heap.size w W ∧ W.heap[w.heap.size]? = some (.cells C 23 (0, 0)) ∧ W.heap[w.heap.size + 1]? = some (.cells Z 23 (0, 0))
set_option maxRecDepth 100000 in
theorem SK.step {w W W' : World} {C Z : Array Value} {base : Nat} (h : SK w C Z W) (hb : Below base W W') (hl : w.heap.size + 2 ≤ base) : SK w C Z W' :=
  ⟨h.1.trans (hb.mono (by omega)), by rw [hb.block _ (by omega)]; exact h.2.1, by rw [hb.block _ (by omega)]; exact h.2.2⟩
set_option maxRecDepth 100000 in
theorem SK.range {w W : World} {C Z : Array Value} (h : SK w C Z W) : W.rangeAt w.heap.size 0 C.toList := fun j v hv => by rw [Nat.zero_add, cell_of_row _ _ _ _ _ _ h.2.1]; simpa using hv
set_option maxRecDepth 100000 in
theorem SK.row {w W : World} {C Z : Array Value} (h : SK w C Z W) (g : Nat) (hg : w.heap.size + 2 ≤ g) (D : Array Value) : SK w C Z (W.setRow g D) :=
  ⟨h.1.trans (below_row _ _ (by omega)), by rw [setRow_other _ _ _ _ (by omega)]; exact h.2.1, by rw [setRow_other _ _ _ _ (by omega)]; exact h.2.2⟩
set_option maxRecDepth 100000 in
theorem strm32 (key nm : List Int) (hk : Byt key) : tstr key nm 1 = strm key nm 32 := by
  have := tstr_strm key nm hk 32 1 (by omega) (by omega)
  rw [← this, List.take_of_length_le (by rw [tstr_len key nm hk]; omega)]
set_option maxRecDepth 100000 in
theorem stream32 (key name : List Int) (vn : Value) (w : World) (C : Array Value) (hC : C = bcells key) (hk : Byt key) (lk : key.length = 32) (hv : Sees w vn name) (ln : name.length ≤ 281474976710656) (hG : Glob w) :
    Calls Tryz.prog 37 #[.agg C, vn, .int .i64 32] w (StreamP w key name 32) := by
  subst hC
  exact stream key name vn 32 (by omega) w hk lk hv ln hG
set_option maxRecDepth 100000 in
set_option maxHeartbeats 8000000 in
theorem derive (key name : List Int) (num : Int) (hnum : 0 ≤ num ∧ num ≤ 18446744073709551615) (w : World) (hk : Byt key) (lk : key.length = 32) (hv : Byt name) (ln : name.length ≤ 900) (hG : Glob w) :
    Calls Tryz.prog 18 #[.agg (bcells key), .string (strOfNums name), .int .u64 num] w fun e w' => e = .returned (.agg (bcells (strm key (name ++ be 8 num) 32))) ∧ Below w.heap.size w w' := by
  have z48 : ∀ w, (zeroValue 23).run Tryz.prog w = .ok (.agg (bcells (List.replicate 32 0))) w := fun _ => by kernel_rfl
  obtain ⟨Z48, hZ⟩ : ∃ Z, Z = bcells (List.replicate 32 0) := ⟨_, rfl⟩
  rw [← hZ] at z48
  have h2w : 2 ≤ w.heap.size := by have := hG.lt; omega
  obtain ⟨CK, hCK⟩ : ∃ C, C = bcells key := ⟨_, rfl⟩
  have ik := i48' key lk
  rw [← hCK] at ik ⊢
  obtain ⟨DD, hDD⟩ : ∃ D, D = strm key (name ++ be 8 num) 32 := ⟨_, rfl⟩
  rw [← hDD]
  have HDD := Lib.hid hDD
  have IK := Lib.hid ik
  have sk := key_all
  obtain ⟨W0, hW0⟩ : ∃ W0, W0 = (((w.alloc (.cells CK 23)).alloc (.cells Z48 23)).alloc (.cells Z48 23)) := ⟨_, rfl⟩
  have g0 : W0.heap[w.heap.size]? = some (.cells CK 23 (0, 0)) := by
    rw [hW0, Below.heap_alloc _ _ _ (by simp; omega), Below.heap_alloc _ _ _ (by simp)]; exact heap_alloc_new w _
  have g1 : W0.heap[w.heap.size + 1]? = some (.cells Z48 23 (0, 0)) := by
    rw [hW0, Below.heap_alloc _ _ _ (by simp)]; exact heap_alloc2_new w _ _
  have g2 : W0.heap[w.heap.size + 1 + 1]? = some (.cells Z48 23 (0, 0)) := by
    have := heap_alloc_new ((w.alloc (.cells CK 23)).alloc (.cells Z48 23)) (.cells Z48 23)
    rw [hW0]; simpa using this
  have b0 : Below w.heap.size w W0 := by rw [hW0]; exact (((Below.refl _ _).alloc (Nat.le_refl _) _).alloc (by simp) _).alloc (by simp; omega) _
  have hsz0 : w.heap.size + 2 + 1 ≤ W0.heap.size := by rw [hW0]; simp
  have SK0 : Hid (SK w CK Z48 W0) := ⟨b0, g0, g1⟩
  have T7 := Lib.hid g2
  have HZ := Lib.hid hZ
  have HKB := Lib.hid hk
  have HKL := Lib.hid lk
  have HVN := Lib.hid hv
  have HGL := Lib.hid hG
  have H2W := Lib.hid h2w
  have HSZ0 := Lib.hid hsz0
  have HCK := Lib.hid hCK
  have HW0 := Lib.hid hW0
  obtain ⟨n0, n1⟩ := hnum
  clear hZ hk lk hv hG h2w g0 g1 g2 b0 hsz0 hCK hW0 ik hDD
  go_enter Tryz.func18, Tryz.ntmps18
  go_wp2_with fail
  rw [← HW0.out]
  have hsz : w.heap.size + 2 ≤ W0.heap.size := by have := HSZ0.out; omega
  have hsz3 : w.heap.size + 1 + 1 < W0.heap.size := by have := HSZ0.out; omega
  refine wp_region_held_drew (S := SK w CK Z48) (by kernel_rfl) (SK0.out.step (Below.refl _ _).drew hsz) (fun hS => ?_)
  have hB0 : Below W0.heap.size W0 W0.drew := (Below.refl _ _).drew
  refine' wpAnyH_take (i := 0) ?h1x0p ?hsx0p ?hfx0p ?hrx0p ?hQx0p (Or.inl ⟨?hwx0p, ?hyx0p⟩) hS ?restx0p
  case h1x0p => (simp only [List.getElem?_toArray, List.getElem?_cons_zero]; rfl)
  case hsx0p | hfx0p | hrx0p => kernel_rfl
  case hQx0p => exact fun _ _ _ h => h
  case hwx0p => rfl
  case hyx0p =>
    intro W hW
    go_simp
    try with_reducible rfl
  simp only [Act.put, List.setIfInBounds_toArray, List.set_cons_succ, List.set_cons_zero]
  refine' wpAnyH_take (i := 2) ?h1x2p ?hsx2p ?hfx2p ?hrx2p ?hQx2p (Or.inl ⟨?hwx2p, ?hyx2p⟩) hS ?restx2p
  case h1x2p => (simp only [List.getElem?_toArray, List.getElem?_cons_succ, List.getElem?_cons_zero]; rfl)
  case hsx2p | hfx2p | hrx2p => kernel_rfl
  case hQx2p => exact fun _ _ _ h => h
  case hwx2p => rfl
  case hyx2p =>
    intro W hW
    go_simp
    try with_reducible rfl
  simp only [Act.put, List.setIfInBounds_toArray, List.set_cons_succ, List.set_cons_zero]
  refine' wpAnyH_take (i := 4) ?h1x4p ?hsx4p ?hfx4p ?hrx4p ?hQx4p (Or.inl ⟨?hwx4p, ?hyx4p⟩) hS ?restx4p
  case h1x4p => (simp only [List.getElem?_toArray, List.getElem?_cons_succ, List.getElem?_cons_zero]; rfl)
  case hsx4p | hfx4p | hrx4p => kernel_rfl
  case hQx4p => exact fun _ _ _ h => h
  case hwx4p => rfl
  case hyx4p =>
    intro W hW
    go_simp
    try with_reducible rfl
  simp only [Act.put, List.setIfInBounds_toArray, List.set_cons_succ, List.set_cons_zero]
  refine' wpAnyH_take (i := 1) ?h1x1p ?hsx1p ?hfx1p ?hrx1p ?hQx1p (yieldsIf_load_mid ?hwx1p 23 (.tmp 3) ?hopx1p w.heap.size 0 rfl CK.toList _ (fun W hW => hW.range) Tryz.underlying23 rfl ?hix1p) hS ?restx1p
  case h1x1p => (simp only [List.getElem?_toArray, List.getElem?_cons_succ, List.getElem?_cons_zero]; rfl)
  case hopx1p => rfl
  case hsx1p | hfx1p | hrx1p => kernel_rfl
  case hQx1p => exact fun _ _ _ h => h
  case hwx1p => rfl
  case hix1p => exact (by rw [Array.length_toList]; exact IK.out)
  simp only [Act.put, List.setIfInBounds_toArray, List.set_cons_succ, List.set_cons_zero]
  refine wpAnyH_ready (rs := [3, 5]) (by kernel_rfl) (by simp) ?_
  refine' AllReadyH.cons ?hoc3p (fun K hK => ?stc3p) (AllReadyH.cons ?hoc5p (fun K hK => ?stc5p) AllReadyH.nil)
  case hoc3p => (simp only [List.getElem?_toArray, List.getElem?_cons_succ, List.getElem?_cons_zero]; rfl)
  case hoc5p => (simp only [List.getElem?_toArray, List.getElem?_cons_succ, List.getElem?_cons_zero]; rfl)
  case stc3p =>
    obtain ⟨v1, w1, r1, s1, b1⟩ := conv_str W0.drew name HVN.out (by omega)
    have hS1 := hS.step (base := W0.drew.heap.size) b1 (Nat.le_trans hsz hB0.size)
    refine step_conv_run rfl (.tmp 10) 9 31 rfl rfl r1 ?_
    refine hK.out _ _ hS1 (fun hHeld => ?_)
    clear hK K
    try simp only [Act.put, List.setIfInBounds_toArray, List.set_cons_succ, List.set_cons_zero]
    have hB1 : Below W0.heap.size W0 w1 := hB0.trans (b1.mono hB0.size)
    clear hS hHeld r1
    refine wpAnyH_ready (rs := [5]) (by kernel_rfl) (by simp) ?_
    refine' AllReadyH.cons ?hoc5a (fun K hK => ?stc5a) AllReadyH.nil
    case hoc5a => (simp only [List.getElem?_toArray, List.getElem?_cons_succ, List.getElem?_cons_zero]; rfl)
    go_simp
    refine (putb64 num n0 n1 _).mono ?_
    rintro e w2 ⟨g2, rfl, s2, b2, _⟩
    go_wp2_with fail
    have hS2 := hS1.step (base := w1.heap.size) b2 (Nat.le_trans hsz hB1.size)
    refine hK.out _ _ hS2 (fun hHeld => ?_)
    clear hK K
    try simp only [Act.put, List.setIfInBounds_toArray, List.set_cons_succ, List.set_cons_zero]
    have hB2 : Below W0.heap.size W0 w2 := hB1.trans (b2.mono hB1.size)
    clear hS1 hHeld
    have sA := s1.below b2
    have sB := s2
    have hBle : W0.heap.size ≤ W0.drew.heap.size := hB0.size
    have hBase : W0.drew.heap.size ≤ w2.heap.size := Nat.le_trans b1.size b2.size
    obtain ⟨x3, c3, w3, r3, s3, b3⟩ := app_str sA sB (by rw [be_len]; omega) (by intro e; have := congrArg List.length e; rw [be_len] at this; simp at this) hBase
    have hS3 := hS2.step b3 (Nat.le_trans hsz hBle)
    have hB3 : Below W0.heap.size W0 w3 := hB2.trans (b3.mono hBle)
    refine wpAnyH_ready (rs := [6]) (by kernel_rfl) (by simp) ?_
    refine' AllReadyH.cons ?hoc6a (fun K hK => ?stc6a) AllReadyH.nil
    case hoc6a => (simp only [List.getElem?_toArray, List.getElem?_cons_succ, List.getElem?_cons_zero]; rfl)
    refine step_app_run rfl (.tmp 11) (.tmp 13) 31 rfl rfl rfl rfl r3 ?_
    refine hK.out _ _ hS3 (fun hHeld => ?_)
    clear hK K
    try simp only [Act.put, List.setIfInBounds_toArray, List.set_cons_succ, List.set_cons_zero]
    clear hHeld hS2
    refine wpAnyH_ready (rs := [7]) (by kernel_rfl) (by simp) ?_
    refine' AllReadyH.cons ?hoc7a (fun K hK => ?stc7a) AllReadyH.nil
    case hoc7a => (simp only [List.getElem?_toArray, List.getElem?_cons_succ, List.getElem?_cons_zero]; rfl)
    go_simp
    refine (stream32 key (name ++ be 8 num) _ w3 _ (by simpa using HCK.out) HKB.out HKL.out s3 (by rw [List.length_append, be_len]; omega) (HGL.out.below hS3.1 H2W.out)).mono ?_
    rintro e w4 ⟨q4, c4, rfl, ho4, b4⟩
    go_wp2_with fail
    have hS4 := hS3.step (base := w3.heap.size) b4 (Nat.le_trans hsz hB3.size)
    refine hK.out _ _ hS4 (fun hHeld => ?_)
    clear hK K
    try simp only [Act.put, List.setIfInBounds_toArray, List.set_cons_succ, List.set_cons_zero]
    clear hHeld
    have hB4 : Below W0.heap.size W0 w4 := hB3.trans (b4.mono hB3.size)
    have row4 : w4.heap[w.heap.size + 1 + 1]? = some (.cells (bcells (List.replicate 32 0)) 23 (0, 0)) := by rw [hB4.block _ hsz3, ← HZ.out]; exact T7.out
    have lD := strm_len key (name ++ be 8 num) HKB.out 32 (by omega)
    have hoD := ho4.sees
    rw [← HDD.out] at lD hoD
    have cp := copy_sees (xs := DD) (v := .slice q4 32 c4) (W := w4) hoD (w.heap.size + 1 + 1) 32 (List.replicate 32 0) 23 row4 (by simp) (by omega)
    rw [lD, show DD ++ (List.replicate 32 (0 : Int)).drop 32 = DD by simp] at cp
    have hS5 := hS4.row (w.heap.size + 1 + 1) (by omega) (bcells (DD))
    have row5 := setRow_heap w4 (w.heap.size + 1 + 1) (bcells (List.replicate 32 0)) (bcells (DD)) 23 (0, 0) row4
    refine wpAnyH_ready (rs := [8]) (by kernel_rfl) (by simp) ?_
    refine' AllReadyH.cons ?hoc8a (fun K hK => ?stc8a) AllReadyH.nil
    case hoc8a => (simp only [List.getElem?_toArray, List.getElem?_cons_succ, List.getElem?_cons_zero]; rfl)
    refine step_copy_run rfl (.tmp 8) (.tmp 15) 31 31 rfl rfl rfl rfl cp ?_
    refine hK.out _ _ hS5 (fun hHeld => ?_)
    clear hK K
    try simp only [Act.put, List.setIfInBounds_toArray, List.set_cons_succ, List.set_cons_zero]
    clear hHeld
    refine wpAnyH_done (by kernel_rfl) ?_ _
    have ID := Lib.hid (i48' _ lD)
    have OD := Lib.hid (bone (DD))
    have SD : Hid (Z48.size = (bcells (DD)).size) := by show _ = _; rw [HZ.out, bsize, bsize, lD, List.length_replicate]
    clear cp lD row4 hS4 hS3 hB3 hB4 s3 r3 b3 b4 ho4 hoD
    generalize w4.setRow (w.heap.size + 1 + 1) (bcells (DD)) = w5 at hS5 row5 ⊢
    have R5 := Lib.hid row5
    have G6 := Lib.hid hS5.2.2
    have B5 := Lib.hid hS5.1
    clear row5 hS5 sA sB hBase hBle
    go_wp2_with (first
      | (refine wpList_load_row rfl 23 (.tmp 7) rfl (w.heap.size + 1 + 1) rfl 23 (bcells DD) (0, 0) _ R5.out und48 rfl ID.out ?_)
      | (refine wpList_store_row rfl 23 (.tmp 6) (.tmp 17) rfl (w.heap.size + 1) (bcells DD) rfl rfl 23 Z48 G6.out ID.out SD.out OD.out ?_))
    refine bodyPost_ret (v := .agg (bcells DD)) (results_cell_row Tryz.results18 _ _ (w.heap.size + 1) 23 _ (0, 0) _ rfl (setRow_heap _ _ _ _ _ _ G6.out) Tryz.underlying23 rfl ID.out) rfl ⟨rfl, ?_⟩
    exact B5.out.trans (below_row _ _ (by omega))
  case stc5p =>
    go_simp
    refine (putb64 num n0 n1 _).mono ?_
    rintro e w2 ⟨g2, rfl, s2, b2, _⟩
    go_wp2_with fail
    have hS2 := hS.step (base := W0.drew.heap.size) b2 (Nat.le_trans hsz hB0.size)
    refine hK.out _ _ hS2 (fun hHeld => ?_)
    clear hK K
    try simp only [Act.put, List.setIfInBounds_toArray, List.set_cons_succ, List.set_cons_zero]
    have hB2 : Below W0.heap.size W0 w2 := hB0.trans (b2.mono hB0.size)
    clear hS hHeld
    refine wpAnyH_ready (rs := [3]) (by kernel_rfl) (by simp) ?_
    refine' AllReadyH.cons ?hoc3b (fun K hK => ?stc3b) AllReadyH.nil
    case hoc3b => (simp only [List.getElem?_toArray, List.getElem?_cons_succ, List.getElem?_cons_zero]; rfl)
    obtain ⟨v1, w1, r1, s1, b1⟩ := conv_str w2 name HVN.out (by omega)
    have hS1 := hS2.step (base := w2.heap.size) b1 (Nat.le_trans hsz hB2.size)
    refine step_conv_run rfl (.tmp 10) 9 31 rfl rfl r1 ?_
    refine hK.out _ _ hS1 (fun hHeld => ?_)
    clear hK K
    try simp only [Act.put, List.setIfInBounds_toArray, List.set_cons_succ, List.set_cons_zero]
    have hB1 : Below W0.heap.size W0 w1 := hB2.trans (b1.mono hB2.size)
    clear hS2 hHeld r1
    have sA := s1
    have sB := s2.below b1
    have hBle : W0.heap.size ≤ w2.heap.size := hB2.size
    have hBase : w2.heap.size ≤ w1.heap.size := b1.size
    obtain ⟨x3, c3, w3, r3, s3, b3⟩ := app_str sA sB (by rw [be_len]; omega) (by intro e; have := congrArg List.length e; rw [be_len] at this; simp at this) hBase
    have hS3 := hS1.step b3 (Nat.le_trans hsz hBle)
    have hB3 : Below W0.heap.size W0 w3 := hB1.trans (b3.mono hBle)
    refine wpAnyH_ready (rs := [6]) (by kernel_rfl) (by simp) ?_
    refine' AllReadyH.cons ?hoc6b (fun K hK => ?stc6b) AllReadyH.nil
    case hoc6b => (simp only [List.getElem?_toArray, List.getElem?_cons_succ, List.getElem?_cons_zero]; rfl)
    refine step_app_run rfl (.tmp 11) (.tmp 13) 31 rfl rfl rfl rfl r3 ?_
    refine hK.out _ _ hS3 (fun hHeld => ?_)
    clear hK K
    try simp only [Act.put, List.setIfInBounds_toArray, List.set_cons_succ, List.set_cons_zero]
    clear hHeld hS1
    refine wpAnyH_ready (rs := [7]) (by kernel_rfl) (by simp) ?_
    refine' AllReadyH.cons ?hoc7b (fun K hK => ?stc7b) AllReadyH.nil
    case hoc7b => (simp only [List.getElem?_toArray, List.getElem?_cons_succ, List.getElem?_cons_zero]; rfl)
    go_simp
    refine (stream32 key (name ++ be 8 num) _ w3 _ (by simpa using HCK.out) HKB.out HKL.out s3 (by rw [List.length_append, be_len]; omega) (HGL.out.below hS3.1 H2W.out)).mono ?_
    rintro e w4 ⟨q4, c4, rfl, ho4, b4⟩
    go_wp2_with fail
    have hS4 := hS3.step (base := w3.heap.size) b4 (Nat.le_trans hsz hB3.size)
    refine hK.out _ _ hS4 (fun hHeld => ?_)
    clear hK K
    try simp only [Act.put, List.setIfInBounds_toArray, List.set_cons_succ, List.set_cons_zero]
    clear hHeld
    have hB4 : Below W0.heap.size W0 w4 := hB3.trans (b4.mono hB3.size)
    have row4 : w4.heap[w.heap.size + 1 + 1]? = some (.cells (bcells (List.replicate 32 0)) 23 (0, 0)) := by rw [hB4.block _ hsz3, ← HZ.out]; exact T7.out
    have lD := strm_len key (name ++ be 8 num) HKB.out 32 (by omega)
    have hoD := ho4.sees
    rw [← HDD.out] at lD hoD
    have cp := copy_sees (xs := DD) (v := .slice q4 32 c4) (W := w4) hoD (w.heap.size + 1 + 1) 32 (List.replicate 32 0) 23 row4 (by simp) (by omega)
    rw [lD, show DD ++ (List.replicate 32 (0 : Int)).drop 32 = DD by simp] at cp
    have hS5 := hS4.row (w.heap.size + 1 + 1) (by omega) (bcells (DD))
    have row5 := setRow_heap w4 (w.heap.size + 1 + 1) (bcells (List.replicate 32 0)) (bcells (DD)) 23 (0, 0) row4
    refine wpAnyH_ready (rs := [8]) (by kernel_rfl) (by simp) ?_
    refine' AllReadyH.cons ?hoc8b (fun K hK => ?stc8b) AllReadyH.nil
    case hoc8b => (simp only [List.getElem?_toArray, List.getElem?_cons_succ, List.getElem?_cons_zero]; rfl)
    refine step_copy_run rfl (.tmp 8) (.tmp 15) 31 31 rfl rfl rfl rfl cp ?_
    refine hK.out _ _ hS5 (fun hHeld => ?_)
    clear hK K
    try simp only [Act.put, List.setIfInBounds_toArray, List.set_cons_succ, List.set_cons_zero]
    clear hHeld
    refine wpAnyH_done (by kernel_rfl) ?_ _
    have ID := Lib.hid (i48' _ lD)
    have OD := Lib.hid (bone (DD))
    have SD : Hid (Z48.size = (bcells (DD)).size) := by show _ = _; rw [HZ.out, bsize, bsize, lD, List.length_replicate]
    clear cp lD row4 hS4 hS3 hB3 hB4 s3 r3 b3 b4 ho4 hoD
    generalize w4.setRow (w.heap.size + 1 + 1) (bcells (DD)) = w5 at hS5 row5 ⊢
    have R5 := Lib.hid row5
    have G6 := Lib.hid hS5.2.2
    have B5 := Lib.hid hS5.1
    clear row5 hS5 sA sB hBase hBle
    go_wp2_with (first
      | (refine wpList_load_row rfl 23 (.tmp 7) rfl (w.heap.size + 1 + 1) rfl 23 (bcells DD) (0, 0) _ R5.out und48 rfl ID.out ?_)
      | (refine wpList_store_row rfl 23 (.tmp 6) (.tmp 17) rfl (w.heap.size + 1) (bcells DD) rfl rfl 23 Z48 G6.out ID.out SD.out OD.out ?_))
    refine bodyPost_ret (v := .agg (bcells DD)) (results_cell_row Tryz.results18 _ _ (w.heap.size + 1) 23 _ (0, 0) _ rfl (setRow_heap _ _ _ _ _ _ G6.out) Tryz.underlying23 rfl ID.out) rfl ⟨rfl, ?_⟩
    exact B5.out.trans (below_row _ _ (by omega))
end Go.Proofs.YtpkeofioobmmoaaGreatDoor.sh
