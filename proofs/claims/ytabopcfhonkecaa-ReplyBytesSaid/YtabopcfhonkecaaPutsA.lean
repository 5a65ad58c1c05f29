/-
  Contracts of the functions that the statement OctetPuts goes through: the document's numbers of bytes, bytes of numbers, and Get. Condition: the slices read as bytes.
-/
import Derived.Test.YtabopcfhonkecaaH
import Derived.Test.YtabopcfhonkecaaI
import Derived.Test.YtabopcfhonkecaaL
import Derived.Deep.RegionHeld3
import Derived.Deep.DrawnRows
namespace Go.Proofs.Ytabopcfhonkecaa.octetPuts
open Go.ChangeShapes Go.WideShapes Go.ChangeAt Go.RowKit
attribute [local go_sem ↓] Go.wp_at_zero Go.wp_at_succ

theorem more {P : Program} {md : Region.Mode} {ops : Array Oper} {Q : Exit → Act → World → Prop} {S S' : World → Prop} (h : ∀ w, S' w → S w) :
    ∀ (fuel : Nat) (listed : Array Bool) (a : Act) (w : World), wpAnyH P md ops Q S' fuel listed a w → wpAnyH P md ops Q S fuel listed a w
  | 0, _, _, _, hh => hh
  | fuel + 1, _, _, _, hh => ⟨hh.1, fun i hi => wpOp_mono (fun a' w' h' => ⟨h w' h'.1, more h fuel _ a' w' h'.2⟩) (hh.2 i hi)⟩

/-! ### The document's number of bytes, and its bytes of a number -/
theorem number (v : Value) (xs : List Int) (hl : xs.length ≤ 8) (w : World) (h : Sees w v xs) : Calls Try.prog 29 #[v] w fun e w' => e = .returned (.int .u64 (numI xs)) ∧ w = w' := by
  have hpos : ∀ (b o cap : Nat), (∀ i, i < xs.length → w.cell? ⟨b, o + i, none⟩ = some (.int .u8 (nth xs i))) → Calls Try.prog 29 #[.slice (some ⟨b, o, none⟩) xs.length cap] w fun e w' => e = .returned (.int .u64 (numI xs)) ∧ w = w' := by
    intro b o cap hc
    have hb := h.1
    clear h
    go_enter Try.func29, Try.ntmps29
    go_wp2
    go_loop [3, 4] (fun u i => ∃ k : Nat, k ≤ xs.length ∧ i = .int .i64 k ∧ u = .int .u64 (numI (xs.take k))) (fun _ i => xs.length - (intOf i).toNat)
    case atStart => exact ⟨0, by omega, rfl, by simp [numI]⟩
    case round =>
      obtain ⟨k, hk, rfl, rfl⟩ := hrel
      by_cases hlt : k < xs.length
      · have hcell := hc k hlt
        have hbd := numI_bd k (xs.take k) (by simp; omega) (hb.take k)
        have hpw := pow7 k (by omega)
        have hg := hb.nth k
        have h0 : 0 ≤ numI (xs.take k) := hbd.1
        have h1 : numI (xs.take k) ≤ 72057594037927935 := by omega
        have h2 : 0 ≤ nth xs k := hg.1
        have h3 : nth xs k ≤ 255 := hg.2
        have ST : Hid (numI (xs.take (k + 1)) = numI (xs.take k) * 256 + nth xs k) := by show _ = _; rw [take_snoc xs k hlt, numI_snoc]
        clear hbd hpw hg hc
        go_wp2
        go_round
        case rel => exact ⟨k + 1, by omega, by go_num, by rw [ST.out]; first | rfl | (congr 1; omega)⟩
        case measure => simp [intOf]; omega
      · obtain rfl : k = xs.length := by omega
        rw [List.take_length]
        clear hc hb
        go_wp2
        go_ret
        exact ⟨rfl, rfl⟩
  have hzero : ∀ (x : Option Addr) (cap : Nat), Calls Try.prog 29 #[.slice x 0 cap] w fun e w' => e = .returned (.int .u64 0) ∧ w = w' := by
    intro x cap
    clear h hpos
    go_enter Try.func29, Try.ntmps29
    go_wp2
    go_loop [3, 4] (fun u i => i = .int .i64 0 ∧ u = .int .u64 0) (fun _ _ => 0)
    case atStart => exact ⟨rfl, rfl⟩
    case round =>
      obtain ⟨rfl, rfl⟩ := hrel
      go_wp2
      go_ret
      exact ⟨rfl, rfl⟩
  obtain ⟨h1, ⟨rfl, rfl⟩ | ⟨a, cap, rfl, rfl, _⟩ | ⟨b, o, cap, rfl, h3, h4, h5, h6⟩⟩ := h
  · exact hzero _ _
  · exact hzero _ _
  · exact hpos b o cap h6

theorem refBytes (v : Int) (n : Nat) (hn : n ≤ 8) (h0 : 0 ≤ v) (h1 : v ≤ 18446744073709551615) (w : World) : Calls Try.prog 23 #[.int .u64 v, .int .i64 n] w (OwnP w (be n v)) := by
  go_enter Try.func23, Try.ntmps23
  go_wp2
  go_loopw [0, 5, 6] (fun q u i wr => ∃ (k : Nat) (y : Int) (x : Option Addr) (cap : Nat) (zs : List Int), k ≤ n ∧ i = .int .i64 k ∧ 0 ≤ y ∧ y ≤ 18446744073709551615 ∧ q = .int .u64 y ∧ zs.length = k ∧ be n v = be (n - k) y ++ zs ∧ u = .slice x k cap ∧ Own wr w.heap.size u zs ∧ Below w.heap.size w wr) (fun _ _ i _ => n - (intOf i).toNat)
  case atStart => exact ⟨0, v, none, 0, [], by omega, rfl, h0, h1, rfl, rfl, by simp, rfl, own_nil _ _, Below.refl _ _⟩
  case round =>
    obtain ⟨k, y, x, cap, zs, hk, rfl, hy0, hy1, rfl, hzl, hbe, rfl, ho, hb⟩ := hrel
    have HBE := Lib.hid hbe
    have HZ := Lib.hid hzl
    by_cases hlt : k < n
    · have HS := Lib.hid (sees_new wr #[.int .u8 (y % 256)] [y % 256] rfl (fun z hz => by simp at hz; omega) (by simp [maxLen]) _ rfl 1 rfl)
      have HO := Lib.hid (ho.below ((Below.refl _ _).alloc (Nat.le_refl _) (.cells #[.int .u8 (y % 256)] 5)))
      have HB := Lib.hid (hb.alloc hb.size (.cells #[.int .u8 (y % 256)] 5))
      have hown1 : Own (wr.alloc (.cells #[.int .u8 (y % 256)] 5)) (wr.heap.size) (.slice (some ⟨wr.heap.size, 0, none⟩) 1 1) [y % 256] :=
        ⟨fun z hz => by simp at hz; omega, rfl, .inr ⟨wr.heap.size, 1, #[.int .u8 (y % 256)], rfl, Nat.le_refl _, heap_alloc_new wr _, by simp, by decide, rfl, rfl⟩⟩
      obtain ⟨x3, c3, w3, hr, ho3, hg3, hb3⟩ := app hown1 HO.out.sees (by simp; omega) (by simp)
      simp only [List.length_cons, List.length_nil, Nat.zero_add, HZ.out, List.cons_append, List.nil_append] at hr ho3
      have HR := Lib.hid hr
      have HO3 : Hid (Own w3 w.heap.size (.slice x3 (1 + k) c3) (y % 256 :: zs)) := by
        show Own _ _ _ _
        obtain ⟨hb1, hl1, h⟩ := ho3
        refine ⟨hb1, hl1, ?_⟩
        rcases h with h | ⟨g, cap', cur, e1, e2, e3⟩
        · exact .inl h
        · exact .inr ⟨g, cap', cur, e1, Nat.le_trans hb.size e2, e3⟩
      have HB3 := Lib.hid (HB.out.trans (hb3.mono hb.size))
      have HN : Hid (be n v = be (n - (k + 1)) (y / 256) ++ (y % 256 :: zs)) := by
        show _ = _
        rw [HBE.out]
        obtain ⟨m, hm⟩ : ∃ m, n - k = m + 1 := ⟨n - k - 1, by omega⟩
        have hm2 : n - (k + 1) = m := by omega
        rw [hm, hm2, be, List.append_assoc]
        rfl
      have hq0 : 0 ≤ y / 256 := by omega
      have hq1 : y / 256 ≤ 18446744073709551615 := by omega
      clear hr ho3 hg3 hb3 hown1 ho hb hbe hzl
      go_wp2_with (at_builtin; refine wpList_app rfl _ _ rfl rfl rfl rfl HR.out ?_)
      go_roundw
      case rel => exact ⟨k + 1, y / 256, x3, c3, y % 256 :: zs, by omega, by go_num, hq0, hq1, rfl, by simp [HZ.out], HN.out, by rw [Nat.add_comm 1 k], by rw [Nat.add_comm 1 k] at *; exact HO3.out, HB3.out⟩
      case measure => simp [intOf]; omega
    · have hkn : k = n := by omega
      subst hkn
      have HE : Hid (be k v = zs) := by show _ = _; rw [HBE.out, Nat.sub_self]; rfl
      have HO := Lib.hid ho
      have HB := Lib.hid hb
      clear ho hb hbe hzl
      go_wp2
      go_ret
      have hl : (be k v).length = k := be_len k v
      rw [HE.out] at hl
      unfold OwnP
      rw [HE.out, hl]
      exact ⟨x, cap, rfl, HO.out, HB.out⟩
theorem refBytes1 (v : Int) (h0 : 0 ≤ v) (h1 : v ≤ 18446744073709551615) (w : World) : Calls Try.prog 23 #[.int .u64 v, .int .i64 1] w (OwnP w (be 1 v)) := refBytes v 1 (by omega) h0 h1 w
theorem refBytes2 (v : Int) (h0 : 0 ≤ v) (h1 : v ≤ 18446744073709551615) (w : World) : Calls Try.prog 23 #[.int .u64 v, .int .i64 2] w (OwnP w (be 2 v)) := refBytes v 2 (by omega) h0 h1 w
theorem refBytes4 (v : Int) (h0 : 0 ≤ v) (h1 : v ≤ 18446744073709551615) (w : World) : Calls Try.prog 23 #[.int .u64 v, .int .i64 4] w (OwnP w (be 4 v)) := refBytes v 4 (by omega) h0 h1 w
theorem refBytes8 (v : Int) (h0 : 0 ≤ v) (h1 : v ≤ 18446744073709551615) (w : World) : Calls Try.prog 23 #[.int .u64 v, .int .i64 8] w (OwnP w (be 8 v)) := refBytes v 8 (by omega) h0 h1 w

theorem getV_bd (xs : List Int) (p : Int) (n : Nat) (hb : Byt xs) : 0 ≤ getV xs p n ∧ getV xs p n < 256 ^ n := by
  unfold getV
  have h256 : (0 : Int) < 256 ^ n := Int.pow_pos (by omega)
  split
  · omega
  · split
    · omega
    · obtain ⟨q, hq⟩ := Int.eq_ofNat_of_zero_le (show 0 ≤ p by omega)
      subst hq
      rw [Int.toNat_natCast]
      exact numI_part xs q n hb (by omega)
end Go.Proofs.Ytabopcfhonkecaa.octetPuts
