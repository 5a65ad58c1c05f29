/-
  Contracts of the document's own functions of packages octet and sha: the number of bytes, the bytes of a number, a number of 32 digits turned and moved. Condition: the numbers fit their kinds.
-/
import Derived.Test.YtboaceabimlodaaDoorTake
import Derived.Test.YtboaceabimlodaaDoorI
namespace Go.Proofs.YtboaceabimlodaaDoor
open Go.RowKit
theorem number (v : Value) (xs : List Int) (hl : xs.length ≤ 8) (w : World) (h : Sees w v xs) : Calls Tryd.prog 35 #[v] w fun e w' => e = .returned (.int .u64 (numI xs)) ∧ w = w' := by
  have hpos : ∀ (b o cap : Nat), (∀ i, i < xs.length → w.cell? ⟨b, o + i, none⟩ = some (.int .u8 (nth xs i))) → Calls Tryd.prog 35 #[.slice (some ⟨b, o, none⟩) xs.length cap] w fun e w' => e = .returned (.int .u64 (numI xs)) ∧ w = w' := by
    intro b o cap hc
    have hb := h.1
    clear h
    go_enter Tryd.func35, Tryd.ntmps35
    go_wp2
    go_loop [3, 4] (fun u i => ∃ k : Nat, k ≤ xs.length ∧ i = .int .i64 k ∧ u = .int .u64 (numI (xs.take k))) (fun _ i => xs.length - (intOf i).toNat)
    case atStart => exact ⟨0, by omega, rfl, by simp [numI]⟩
    case round =>
      obtain ⟨k, hk, rfl, rfl⟩ := hrel
      by_cases hlt : k < xs.length
      · have hcell := hc k hlt
        have hbd := numI_bd k (xs.take k) (by simp; omega) (hb.take k)
        have hpw := pow7 k (by omega)
        have hg := hb.nth k
        have h0 : 0 ≤ numI (xs.take k) := hbd.1
        have h1 : numI (xs.take k) ≤ 72057594037927935 := by omega
        have h2 : 0 ≤ nth xs k := hg.1
        have h3 : nth xs k ≤ 255 := hg.2
        have ST : Hid (numI (xs.take (k + 1)) = numI (xs.take k) * 256 + nth xs k) := by show _ = _; rw [take_snoc xs k hlt, numI_snoc]
        clear hbd hpw hg hc
        go_wp2
        go_round
        case rel => exact ⟨k + 1, by omega, by go_num, by rw [ST.out]; first | rfl | (congr 1; omega)⟩
        case measure => simp [intOf]; omega
      · obtain rfl : k = xs.length := by omega
        rw [List.take_length]
        clear hc hb
        go_wp2
        go_ret
        exact ⟨rfl, rfl⟩
  have hzero : ∀ (x : Option Addr) (cap : Nat), Calls Tryd.prog 35 #[.slice x 0 cap] w fun e w' => e = .returned (.int .u64 0) ∧ w = w' := by
    intro x cap
    clear h hpos
    go_enter Tryd.func35, Tryd.ntmps35
    go_wp2
    go_loop [3, 4] (fun u i => i = .int .i64 0 ∧ u = .int .u64 0) (fun _ _ => 0)
    case atStart => exact ⟨rfl, rfl⟩
    case round =>
      obtain ⟨rfl, rfl⟩ := hrel
      go_wp2
      go_ret
      exact ⟨rfl, rfl⟩
  obtain ⟨h1, ⟨rfl, rfl⟩ | ⟨a, cap, rfl, rfl, _⟩ | ⟨b, o, cap, rfl, h3, h4, h5, h6⟩⟩ := h
  · exact hzero _ _
  · exact hzero _ _
  · exact hpos b o cap h6

set_option maxHeartbeats 1000000 in
theorem refBytes (v : Int) (n : Nat) (hn : n ≤ 8) (h0 : 0 ≤ v) (h1 : v ≤ 18446744073709551615) (w : World) : Calls Tryd.prog 29 #[.int .u64 v, .int .i64 n] w (OwnP w (be n v)) := by
  go_enter Tryd.func29, Tryd.ntmps29
  go_wp2
  go_loopw [0, 5, 6] (fun q u i wr => ∃ (k : Nat) (y : Int) (x : Option Addr) (cap : Nat) (zs : List Int), k ≤ n ∧ i = .int .i64 k ∧ 0 ≤ y ∧ y ≤ 18446744073709551615 ∧ q = .int .u64 y ∧ zs.length = k ∧ be n v = be (n - k) y ++ zs ∧ u = .slice x k cap ∧ Own wr w.heap.size u zs ∧ Below w.heap.size w wr) (fun _ _ i _ => n - (intOf i).toNat)
  case atStart => exact ⟨0, v, none, 0, [], by omega, rfl, h0, h1, rfl, rfl, by simp, rfl, own_nil _ _, Below.refl _ _⟩
  case round =>
    obtain ⟨k, y, x, cap, zs, hk, rfl, hy0, hy1, rfl, hzl, hbe, rfl, ho, hb⟩ := hrel
    have HBE := Lib.hid hbe
    have HZ := Lib.hid hzl
    by_cases hlt : k < n
    · have HS := Lib.hid (sees_new wr #[.int .u8 (y % 256)] [y % 256] rfl (fun z hz => by simp at hz; omega) (by simp [maxLen]) _ rfl 1 rfl)
      have HO := Lib.hid (ho.below ((Below.refl _ _).alloc (Nat.le_refl _) (.cells #[.int .u8 (y % 256)] 5)))
      have HB := Lib.hid (hb.alloc hb.size (.cells #[.int .u8 (y % 256)] 5))
      have hown1 : Own (wr.alloc (.cells #[.int .u8 (y % 256)] 5)) (wr.heap.size) (.slice (some ⟨wr.heap.size, 0, none⟩) 1 1) [y % 256] :=
        ⟨fun z hz => by simp at hz; omega, rfl, .inr ⟨wr.heap.size, 1, #[.int .u8 (y % 256)], rfl, Nat.le_refl _, heap_alloc_new wr _, by simp, by decide, rfl, rfl⟩⟩
      obtain ⟨x3, c3, w3, hr, ho3, hg3, hb3⟩ := app hown1 HO.out.sees (by simp; omega) (by simp)
      simp only [List.length_cons, List.length_nil, Nat.zero_add, HZ.out, List.cons_append, List.nil_append] at hr ho3
      have HR := Lib.hid hr
      have HO3 : Hid (Own w3 w.heap.size (.slice x3 (1 + k) c3) (y % 256 :: zs)) := by
        show Own _ _ _ _
        obtain ⟨hb1, hl1, h⟩ := ho3
        refine ⟨hb1, hl1, ?_⟩
        rcases h with h | ⟨g, cap', cur, e1, e2, e3⟩
        · exact .inl h
        · exact .inr ⟨g, cap', cur, e1, Nat.le_trans hb.size e2, e3⟩
      have HB3 := Lib.hid (HB.out.trans (hb3.mono hb.size))
      have HN : Hid (be n v = be (n - (k + 1)) (y / 256) ++ (y % 256 :: zs)) := by
        show _ = _
        rw [HBE.out]
        obtain ⟨m, hm⟩ : ∃ m, n - k = m + 1 := ⟨n - k - 1, by omega⟩
        have hm2 : n - (k + 1) = m := by omega
        rw [hm, hm2, be, List.append_assoc]
        rfl
      have hq0 : 0 ≤ y / 256 := by omega
      have hq1 : y / 256 ≤ 18446744073709551615 := by omega
      clear hr ho3 hg3 hb3 hown1 ho hb hbe hzl
      go_wp2_with (at_builtin; refine wpList_app rfl _ _ rfl rfl rfl rfl HR.out ?_)
      go_roundw
      case rel => exact ⟨k + 1, y / 256, x3, c3, y % 256 :: zs, by omega, by go_num, hq0, hq1, rfl, by simp [HZ.out], HN.out, by rw [Nat.add_comm 1 k], by rw [Nat.add_comm 1 k] at *; exact HO3.out, HB3.out⟩
      case measure => simp [intOf]; omega
    · have hkn : k = n := by omega
      subst hkn
      have HE : Hid (be k v = zs) := by show _ = _; rw [HBE.out, Nat.sub_self]; rfl
      have HO := Lib.hid ho
      have HB := Lib.hid hb
      clear ho hb hbe hzl
      go_wp2
      go_ret
      have hl : (be k v).length = k := be_len k v
      rw [HE.out] at hl
      unfold OwnP
      rw [HE.out, hl]
      exact ⟨x, cap, rfl, HO.out, HB.out⟩
/-- Halved, the digit that leaves put at the top. -/
def rt1 (x : Int) : Int := x / 2 + x % 2 * 2147483648
def rtk : Nat → Int → Int
  | 0, x => x
  | k + 1, x => rt1 (rtk k x)
theorem rtk_bd (x : Int) (h : 0 ≤ x ∧ x ≤ 4294967295) : ∀ k, 0 ≤ rtk k x ∧ rtk k x ≤ 4294967295
  | 0 => h
  | k + 1 => by have := rtk_bd x h k; unfold rtk rt1; omega
theorem rtk_nat (x : Nat) (h : x < 4294967296) : ∀ k, k ≤ 32 → rtk k (x : Int) = ((x / 2 ^ k + x % 2 ^ k * 2 ^ (32 - k) : Nat) : Int)
  | 0, _ => by simp [rtk, Nat.mod_one]
  | k + 1, hk => by
    have ih := rtk_nat x h k (by omega)
    obtain ⟨m, hm⟩ : ∃ m, 32 - k = m + 1 := ⟨31 - k, by omega⟩
    have hm2 : 32 - (k + 1) = m := by omega
    have hp : 2 ^ k * 2 ^ m = 2147483648 := by rw [← Nat.pow_add, show k + m = 31 by omega]
    rw [rtk, ih, hm, hm2]
    have e1 : x / 2 ^ (k + 1) = x / 2 ^ k / 2 := by rw [Nat.div_div_eq_div_mul, Nat.pow_succ]
    have e2 : x % 2 ^ (k + 1) = x % 2 ^ k + 2 ^ k * (x / 2 ^ k % 2) := Nat.mod_pow_succ
    rw [e1, e2, Nat.pow_succ, Nat.add_mul, Nat.mul_right_comm, hp]
    generalize x / 2 ^ k = q
    have e3 : x % 2 ^ k * (2 ^ m * 2) = 2 * (x % 2 ^ k * 2 ^ m) := by rw [Nat.mul_comm (2 ^ m) 2, Nat.mul_left_comm]
    rw [e3]
    generalize x % 2 ^ k * 2 ^ m = r
    unfold rt1
    omega
theorem or32 (a b : Nat) (ha : a < 4294967296) (hb : b < 4294967296) : bits .or .u32 (a : Int) (b : Int) = ((a ||| b : Nat) : Int) := by
  have e : bits .or .u32 (a : Int) (b : Int) = IntKind.u32.wrap ((BitVec.ofInt 32 (a : Int) ||| BitVec.ofInt 32 (b : Int)).toNat : Int) := rfl
  rw [e, BitVec.ofInt_natCast, BitVec.ofInt_natCast, BitVec.toNat_or, BitVec.toNat_ofNat, BitVec.toNat_ofNat, Nat.mod_eq_of_lt ha, Nat.mod_eq_of_lt hb]
  have hl := Nat.or_lt_two_pow (n := 32) ha hb
  simp [IntKind.wrap, IntKind.bits, IntKind.signed]
  omega
theorem rtk_rot (n : Nat) (h1 : 0 < n) (h2 : n < 32) (x : Int) (h : 0 ≤ x ∧ x ≤ 4294967295) : rtk n x = rot n x := by
  obtain ⟨y, rfl⟩ := Int.eq_ofNat_of_zero_le h.1
  have hy : y < 4294967296 := by omega
  rw [rtk_nat y hy n (by omega)]
  have hp : 2 ^ n * 2 ^ (32 - n) = 4294967296 := by rw [← Nat.pow_add, show n + (32 - n) = 32 by omega]
  have hM : 0 < 2 ^ (32 - n) := Nat.two_pow_pos _
  have e1 : y * 2 ^ (32 - n) % 4294967296 = y % 2 ^ n * 2 ^ (32 - n) := by rw [← hp, Nat.mul_mod_mul_right]
  have e2 : y / 2 ^ n < 2 ^ (32 - n) := Nat.div_lt_of_lt_mul (by rw [hp]; exact hy)
  have e3 : y % 2 ^ n * 2 ^ (32 - n) < 4294967296 := by rw [← e1]; exact Nat.mod_lt _ (by omega)
  have e4 : y / 2 ^ n < 4294967296 := Nat.lt_of_le_of_lt (Nat.div_le_self _ _) hy
  have key := or32 _ _ e3 e4
  have e5 : y % 2 ^ n * 2 ^ (32 - n) ||| y / 2 ^ n = y / 2 ^ n + y % 2 ^ n * 2 ^ (32 - n) := by
    rw [← Nat.shiftLeft_eq, ← Nat.shiftLeft_add_eq_or_of_lt e2, Nat.add_comm]
  rw [e5, ← e1] at key
  rw [e1] at key
  rw [← key]
  unfold rot
  congr 1
  rw [← e1]; simp
set_option maxHeartbeats 1000000 in
theorem turnedN (x : Int) (h : 0 ≤ x ∧ x ≤ 4294967295) (n : Nat) (hn : n ≤ 1000) (w : World) : Calls Tryd.prog 34 #[.int .u32 x, .int .i64 n] w fun e w' => e = .returned (.int .u32 (rtk n x)) ∧ w = w' := by
  go_enter Tryd.func34, Tryd.ntmps34
  go_wp2
  go_loop [0, 5] (fun v i => ∃ k : Nat, k ≤ n ∧ i = .int .i64 k ∧ v = .int .u32 (rtk k x)) (fun _ i => n - (intOf i).toNat)
  case atStart => exact ⟨0, by omega, rfl, rfl⟩
  case round =>
    obtain ⟨k, hk, rfl, rfl⟩ := hrel
    obtain ⟨b1, b2⟩ := rtk_bd x h k
    by_cases hlt : k < n
    · have HR : Hid (rtk (k + 1) x = rtk k x / 2 + rtk k x % 2 * 2147483648) := rfl
      generalize rtk k x = y at *
      go_wp2
      go_round
      case rel => exact ⟨k + 1, by omega, by go_num, by rw [HR.out]⟩
      case measure => simp [intOf]; omega
    · obtain rfl : k = n := by omega
      go_wp2
      go_ret
      exact ⟨rfl, rfl⟩
theorem movedN (x : Int) (h : 0 ≤ x ∧ x ≤ 4294967295) (n : Nat) (hn : n ≤ 1000) (w : World) : Calls Tryd.prog 36 #[.int .u32 x, .int .i64 n] w fun e w' => e = .returned (.int .u32 (x / 2 ^ n)) ∧ w = w' := by
  go_enter Tryd.func36, Tryd.ntmps36
  go_wp2
  go_loop [0, 5] (fun v i => ∃ (k : Nat) (y : Int), k ≤ n ∧ i = .int .i64 k ∧ v = .int .u32 y ∧ 0 ≤ y ∧ y ≤ 4294967295 ∧ y = x / 2 ^ k) (fun _ i => n - (intOf i).toNat)
  case atStart => exact ⟨0, x, by omega, rfl, rfl, h.1, h.2, by simp⟩
  case round =>
    obtain ⟨k, y, hk, rfl, rfl, b1, b2, hy⟩ := hrel
    have HY := Lib.hid hy
    clear hy
    by_cases hlt : k < n
    · go_wp2
      go_round
      case rel =>
        refine ⟨k + 1, y / 2, by omega, by go_num, rfl, by omega, by omega, ?_⟩
        rw [HY.out, Int.ediv_ediv_of_nonneg (Int.pow_nonneg (by omega)), Int.pow_succ]
      case measure => simp [intOf]; omega
    · obtain rfl : k = n := by omega
      go_wp2
      go_ret
      exact ⟨by rw [HY.out]; rfl, rfl⟩
theorem dturn (x : Int) (h0 : 0 ≤ x) (h1 : x ≤ 4294967295) (z : Int) (hz0 : 0 < z) (hz1 : z < 32) (w : World) : Calls Tryd.prog 34 #[.int .u32 x, .int .i64 z] w fun e w' => e = .returned (.int .u32 (rot z.toNat x)) ∧ w' = w := by
  obtain ⟨n, rfl⟩ := Int.eq_ofNat_of_zero_le (show 0 ≤ z by omega)
  have h := turnedN x ⟨h0, h1⟩ n (by omega) w
  rw [rtk_rot n (by omega) (by omega) x ⟨h0, h1⟩] at h
  exact h.mono fun _ _ ⟨a, b⟩ => ⟨a, b.symm⟩
theorem dmove3 (x : Int) (h0 : 0 ≤ x) (h1 : x ≤ 4294967295) (w : World) : Calls Tryd.prog 36 #[.int .u32 x, .int .i64 3] w fun e w' => e = .returned (.int .u32 (x / 8)) ∧ w' = w :=
  (movedN x ⟨h0, h1⟩ 3 (by omega) w).mono fun _ _ ⟨a, b⟩ => ⟨a, b.symm⟩
theorem dmove10 (x : Int) (h0 : 0 ≤ x) (h1 : x ≤ 4294967295) (w : World) : Calls Tryd.prog 36 #[.int .u32 x, .int .i64 10] w fun e w' => e = .returned (.int .u32 (x / 1024)) ∧ w' = w :=
  (movedN x ⟨h0, h1⟩ 10 (by omega) w).mono fun _ _ ⟨a, b⟩ => ⟨a, b.symm⟩
/-- The call's own numbers, in a block from base on. -/
def OwnK (k : IntKind) (E : TypeId) (w : World) (base : Nat) (v : Value) (xs : List Int) : Prop := w.ownsRow base E 1 v xs.length (xs.map (Value.int k))
theorem ownk_nil (k : IntKind) (E : TypeId) (w : World) (base : Nat) : OwnK k E w base (.slice none 0 0) [] := World.ownsRow_nil w base E 1
theorem OwnK.grown {k : IntKind} {E : TypeId} {w w' : World} {base : Nat} {v : Value} {xs : List Int} {row : Option Nat} (h : OwnK k E w base v xs) (hg : w.grownBy w' row) (hne : v.ownBlock = none ∨ v.ownBlock ≠ row) : OwnK k E w' base v xs :=
  World.ownsRow.kept h hg hne
theorem OwnK.below {k : IntKind} {E : TypeId} {w w' : World} {base : Nat} {v : Value} {xs : List Int} (h : OwnK k E w base v xs) (hb : Below w.heap.size w w') : OwnK k E w' base v xs :=
  h.grown (row := none) ⟨hb.os, hb.tape, hb.output, hb.size, fun j hj _ => hb.block j hj⟩ (by cases v.ownBlock <;> simp)
/-- Its cells. -/
theorem OwnK.cells {k : IntKind} {E : TypeId} {w : World} {base : Nat} {v : Value} {xs : List Int} (h : OwnK k E w base v xs) (h0 : 0 < xs.length) :
    ∃ g cap, v = .slice (some ⟨g, 0, none⟩) xs.length cap ∧ base ≤ g ∧ xs.length ≤ cap ∧ cap ≤ maxLen ∧ ∀ i, i < xs.length → w.cell? ⟨g, i, none⟩ = some (.int k (nth xs i)) := by
  obtain ⟨hl, ⟨rfl, e0⟩ | ⟨g, cap, cur, rfl, hbg, hg, hn, hm, hs, ht⟩⟩ := h
  · omega
  · refine ⟨g, cap, rfl, hbg, hn, hm, fun i hi => ?_⟩
    rw [cell_of_row _ _ _ _ _ _ hg]
    have h1 : (xs.map (Value.int k))[i]? = some (.int k (nth xs i)) := by simp [nth, List.getD, hi]
    rw [← ht, List.getElem?_take_of_lt (by omega)] at h1
    simpa using h1
/-- One number more. -/
theorem OwnK.push {P : Program} {k : IntKind} {E T : TypeId} {by_ : Nat} (ht : P.underlying T = some (.slice E)) (hinfo : (P.info? E).map (fun i => (i.zero, i.size, i.bytes)) = some (some (.int k 0), 1, by_)) (hby : by_ ≤ 8)
    {w : World} {base : Nat} {v : Value} {xs : List Int} (h : OwnK k E w base v xs) (hn : xs.length + 1 ≤ 1099511627776) (hbase : base ≤ w.heap.size) (x : Int) :
    ∃ q cap w', (Builtin.append_ #[T, T] T #[v, .slice (some ⟨w.heap.size, 0, none⟩) 1 1]).run P (w.alloc (.cells #[.int k x] E)) = .ok (.slice q (xs.length + 1) cap) w' ∧
      OwnK k E w' base (.slice q (xs.length + 1) cap) (xs ++ [x]) ∧ Below base w w' ∧ (w.alloc (.cells #[.int k x] E)).grownBy w' v.ownBlock := by
  obtain ⟨i, hi, hz0, hz1, hz2⟩ := info_parts hinfo
  have ho : OwnK k E (w.alloc (.cells #[.int k x] E)) base v xs := h.below ((Below.refl _ _).alloc (Nat.le_refl _) _)
  have hb : (xs.length + 1) * by_ ≤ 140737488355328 := Nat.le_trans (Nat.mul_le_mul_left _ hby) (by omega)
  have hm : xs.length + 1 ≤ maxLen := by unfold maxLen; omega
  obtain ⟨v', w', hr, hown, hg, hnil⟩ := run_append_own (P := P) (w.alloc (.cells #[.int k x] E)) base T T E i _ 1 by_ ht hi hz0 hz1 hz2 rfl (by decide) v xs.length _ ho ⟨w.heap.size, 0, none⟩ 1 1 [.int k x] rfl (cell_one_new w _ _) (by simp [Value.oneCell']) hm hb (by simp; omega)
  have hbel : Below base w w' := ((Below.refl base w).alloc hbase _).grown hg (by simp; omega) (fun j e => (World.ownsRow.lt ho j e).1)
  have hown' : OwnK k E w' base v' (xs ++ [x]) := by
    unfold OwnK
    rw [List.length_append, List.map_append]
    exact hown
  rcases hown.2 with ⟨rfl, h0⟩ | ⟨g, cap, cur, rfl, _⟩
  · omega
  · exact ⟨_, _, w', hr, hown', hbel, hg⟩
/-- An append whose run is known, in a plain region, of any kind of numbers. -/
theorem wpList_appK (T : TypeId) {ops : Array Oper} {rest : List Oper} {o : Oper} {a : Act} {w : World} {Q : Exit → Act → World → Prop} (hgd : o.guard = none) (s x : Operand)
    (ho : o.op = .call { callee := .builtin .append, args := #[s, x], argTypes := #[T, T] }) (hty : o.type = T) {v u v' : Value} {w' : World} (hs : a.eval s = v) (hx : a.eval x = u)
    (hr : (Builtin.append_ #[T, T] T #[v, u]).run Tryd.prog w = .ok v' w') (h : wpList Tryd.prog ops Q rest (a.put o.dst v') w') : wpList Tryd.prog ops Q (o :: rest) a w := by
  refine wpList_plain hgd fun K hK => ?_
  unfold Oper.wp execOp
  simp only [ho, hty, resolve, invoke, builtin, Sem.run_bind, Sem.run_pure, Result.andThen_ok, List.map_toArray, List.map_cons, List.map_nil, hs, hx, hr]
  exact hK _ _ h
end Go.Proofs.YtboaceabimlodaaDoor
