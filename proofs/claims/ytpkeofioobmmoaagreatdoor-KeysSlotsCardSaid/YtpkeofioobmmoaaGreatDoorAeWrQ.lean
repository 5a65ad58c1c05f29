/-
  Contracts of package wrap: Wrap, Unwrap, and what must come of fixed calls. Condition: the numbers are bytes.
-/
import Derived.Test.YtpkeofioobmmoaaGreatDoorAeWrP
import Derived.Deep.RegionHeld3
import Derived.Test.YtpkeofioobmmoaaGreatDoorAeAesAl
namespace Go.Proofs.YtpkeofioobmmoaaGreatDoor.ae
open Go.RowKit
/-- May so many bytes be wrapped? -/
def isW (n : Int) : Bool := decide (16 ≤ n ∧ n ≤ 128 ∧ n % 8 = 0)
set_option maxRecDepth 100000 in
theorem isWordsC (n : Int) (hn : -9223372036854775808 ≤ n ∧ n ≤ 9223372036854775807) (w : World) : Calls Tryz.prog 27 #[.int .i64 n] w fun e w' => e = .returned (.bool (isW n)) ∧ w = w' := by
  by_cases h1 : 16 ≤ n
  · by_cases h2 : n ≤ 128
    · obtain ⟨r, hr⟩ : ∃ r : Nat, n % 8 = (r : Int) := ⟨(n % 8).toNat, by omega⟩
      have tr : n.tmod 8 = (r : Int) := by rw [Int.tmod_eq_emod_of_nonneg (by omega)]; exact hr
      by_cases h3 : r = 0
      · have z : ((r : Int) == 0) = true := by simp [h3]
        have D : Hid (isW n = true) := by show isW n = _; unfold isW; simp; omega
        clear hr h3
        go_enter Tryz.func27, Tryz.ntmps27
        go_wp2_with fail
        go_ret
        exact ⟨by rw [D.out]; rfl, rfl⟩
      · have z : ((r : Int) == 0) = false := by simp [h3]
        have D : Hid (isW n = false) := by show isW n = _; unfold isW; simp; omega
        clear hr h3
        go_enter Tryz.func27, Tryz.ntmps27
        go_wp2_with fail
        go_ret
        exact ⟨by rw [D.out]; rfl, rfl⟩
    · have D : Hid (isW n = false) := by show isW n = _; unfold isW; simp; omega
      go_enter Tryz.func27, Tryz.ntmps27
      go_wp2_with fail
      go_ret
      exact ⟨by rw [D.out]; rfl, rfl⟩
  · have D : Hid (isW n = false) := by show isW n = _; unfold isW; simp; omega
    go_enter Tryz.func27, Tryz.ntmps27
    go_wp2_with fail
    go_ret
    exact ⟨by rw [D.out]; rfl, rfl⟩
/-- The word in front. -/
def fr8 : List Nat := List.replicate 8 166
set_option maxRecDepth 100000 in
theorem frontC (w : World) : Calls Tryz.prog 30 #[] w fun e w' => e = .returned (.slice (some ⟨w.heap.size, 0, none⟩) 8 8) ∧ w' = w.alloc (.cells (ncells fr8) 5) := by
  go_enter Tryz.func30, Tryz.ntmps30
  go_wp2_with fail
  go_ret
  exact ⟨rfl, rfl⟩
set_option maxRecDepth 100000 in
theorem fr8_len : fr8.length = 8 := rfl
set_option maxRecDepth 100000 in
theorem fr8_byt : Byt fr8 := fun x hx => by rw [List.eq_of_mem_replicate hx]; omega
set_option maxRecDepth 100000 in
theorem own_lit (w : World) (base : Nat) (l : List Nat) (hb : Byt l) (hm : l.length ≤ maxLen) (hs : base ≤ w.heap.size) : Own (w.alloc (.cells (ncells l) 5)) base (.slice (some ⟨w.heap.size, 0, none⟩) l.length l.length) l := by
  have h := World.ownsRow_lit (base := base) (e := 5) (size := 1) w (ncells l) l.length hs hm (by rw [nsize, Nat.mul_one])
  refine ⟨hb, ?_⟩
  simpa [ncells] using h
set_option maxRecDepth 100000 in
theorem Own.wr {w : World} {base cap : Nat} {x : Option Addr} {l : List Nat} (h : Own w base (.slice x l.length cap) l) (h0 : 0 < l.length) : ∃ q cs, x = some ⟨q, 0, none⟩ ∧ WR w q l cs ∧ l.length ≤ cap ∧ cap ≤ maxLen ∧ base ≤ q := by
  obtain ⟨h1, h2, ⟨_, h3⟩ | ⟨g, cap', cur, hv, hb, hg, hn, hc, hs, ht⟩⟩ := h
  · omega
  · simp only [Value.slice.injEq] at hv
    obtain ⟨rfl, _, rfl⟩ := hv
    refine ⟨g, cur, rfl, ⟨hg, by omega, fun j hj => ?_⟩, hn, hc, hb⟩
    have e : cur.toList[j]? = (l.map fun n : Nat => Value.int .u8 (n : Int))[j]? := by
      rw [← ht, List.getElem?_take_of_lt (by simpa using hj)]
    rw [Array.getElem?_toList] at e
    rw [e, List.getElem?_map, List.getElem?_eq_getElem hj]
    simp [at_, List.getD, hj]
set_option maxRecDepth 100000 in
theorem WR.sees {w : World} {q cap : Nat} {l : List Nat} {cs : Array Value} (h : WR w q l cs) (hb : Byt l) (h0 : 0 < l.length) (hc : l.length ≤ cap) (hm : cap ≤ maxLen) : Sees w (.slice (some ⟨q, 0, none⟩) l.length cap) l :=
  ⟨hb, .inr (.inr ⟨q, 0, cap, rfl, fun e => by rw [e] at h0; simp at h0, hc, hm, fun i hi => by rw [Nat.zero_add]; exact h.cell hi⟩)⟩
/-- A wrap of n words. -/
def wrp (key b : List Nat) (n : Nat) : List Nat := tn (enc key) (fr8 ++ b) n (6 * n)
set_option maxRecDepth 100000 in
set_option maxHeartbeats 8000000 in
theorem wrapYes (key b : List Nat) (hk : Bts 32 key) (n : Nat) (x : Option Addr) (L cap : Nat) (w : World) (hs : Sees w (.slice x L cap) b) (hL : L = b.length) (hn : L = 8 * n) (h1 : 2 ≤ n) (h2 : n ≤ 16) :
    Calls Tryz.prog 19 #[.agg (ncells key), .slice x L cap] w fun e w' => ∃ q c, e = .returned (.tuple #[.slice q (L + 8) c, .int .i64 0]) ∧ Sees w' (.slice q (L + 8) c) (wrp key b n) ∧ Below w.heap.size w w' := by
  have IW := Lib.hid (isWordsC (L : Int) ⟨by omega, by omega⟩ (w.alloc (.cells (ncells key) 23)))
  have hw : isW L = true := by unfold isW; simp; omega
  rw [hw] at IW
  have FC := Lib.hid (frontC (w.alloc (.cells (ncells key) 23)))
  obtain ⟨w1, hw1⟩ : ∃ w1, w1 = w.alloc (.cells (ncells key) 23) := ⟨_, rfl⟩
  rw [← hw1] at IW FC
  have b1 : Below w.heap.size w w1 := by rw [hw1]; exact (Below.refl _ _).alloc (Nat.le_refl _) _
  have g1 : w1.heap[w.heap.size]? = some (.cells (ncells key) 23 (0, 0)) := by rw [hw1]; exact heap_alloc_new w _
  obtain ⟨w2, hw2⟩ : ∃ w2, w2 = w1.alloc (.cells (ncells fr8) 5) := ⟨_, rfl⟩
  rw [← hw2] at FC
  have b2 : Below w1.heap.size w1 w2 := by rw [hw2]; exact (Below.refl _ _).alloc (Nat.le_refl _) _
  have o2 : Own w2 w.heap.size (.slice (some ⟨w1.heap.size, 0, none⟩) 8 8) fr8 := by rw [hw2]; exact own_lit w1 w.heap.size fr8 fr8_byt (by rw [fr8_len]; simp [maxLen]) b1.size
  have s2 := (hs.below b1).below b2
  obtain ⟨x3, c3, w3, hrun, o3, gr3, b3⟩ := app o2 s2 (by rw [fr8_len, ← hL]; omega) (Nat.le_trans b1.size b2.size)
  rw [fr8_len, ← hL] at hrun o3
  have hlen : (fr8 ++ b).length = 8 * (n + 1) := by rw [List.length_append, fr8_len, ← hL]; omega
  have hbyt : Byt (fr8 ++ b) := fr8_byt.append hs.1
  have e8 : 8 + L = 8 * (n + 1) := by omega
  have o3' : Own w3 w.heap.size (.slice x3 (fr8 ++ b).length c3) (fr8 ++ b) := by rw [hlen, ← e8]; exact o3
  obtain ⟨q, cs, rfl, wr3, hc3, hm3, hq3⟩ := o3'.wr (by omega)
  have g2 := (b2.block _ (blk_lt g1)).trans g1
  have g3 : w3.heap[w.heap.size]? = some (.cells (ncells key) 23 (0, 0)) := (gr3.block _ (blk_lt g2) (by
    have := blk_lt g1
    simp [Value.ownBlock]; omega)).trans g2
  have HR := Lib.hid hrun
  have WR3 := Lib.hid wr3
  have G3 := Lib.hid g3
  have B3 : Hid (Below w.heap.size w w3) := (b1.trans (b2.mono b1.size)).trans b3
  have NC := Lib.hid (newC key hk w3)
  have KL := Lib.hid hk.1
  have HK := Lib.hid hk
  have HLN := Lib.hid hlen
  have HBY := Lib.hid hbyt
  have HE8 := Lib.hid e8
  have HQ3 := Lib.hid hq3
  have HC3 := Lib.hid hc3
  have HM3 := Lib.hid hm3
  have HW1 := Lib.hid hw1
  have N12 : Hid (2 ≤ n ∧ n ≤ 16) := ⟨h1, h2⟩
  clear hs hL hn hw hw1 b1 g1 hw2 b2 o2 s2 o3 o3' gr3 b3 g2 g3 hrun wr3 hk hlen hbyt e8 hc3 hm3 hq3 h1 h2
  go_enter Tryz.func19, Tryz.ntmps19
  go_wp2_with fail
  rw [← HW1.out]
  refine (IW.out).mono ?_
  rintro e w' ⟨rfl, rfl⟩
  go_wp2_with fail
  refine (FC.out).mono ?_
  rintro e w' ⟨rfl, rfl⟩
  go_wp2_with (first
    | (at_builtin; refine wpList_app rfl _ _ rfl rfl rfl rfl HR.out ?_)
    | (refine wpList_load_row rfl 23 (.tmp 2) rfl w.heap.size rfl 23 (ncells key) (0, 0) _ G3.out Tryz.underlying23 rfl (i23 KL.out) ?_))
  refine (NC.out).mono ?_
  rintro e w4 ⟨gc, rfl, hge, hci, hb4⟩
  have TW : Hid (Calls Tryz.prog 39 #[.pointer (some ⟨gc, 0, none⟩), .slice (some ⟨q, 0, none⟩) (8 + L) c3] w4 fun e w' => e = .returned (.tuple #[]) ∧ (∃ cs', WR w' q (wrp key b n) cs') ∧ Elsewhere q w4 w') := by
    show Calls _ _ _ _ _
    rw [HE8.out]
    exact turnW key (fr8 ++ b) HK.out gc n q c3 cs w4 hci (WR3.out.below hb4) HBY.out HLN.out (by have := N12.out; omega) N12.out.2 (by rw [← HLN.out]; exact HC3.out)
  have B4 := Lib.hid (B3.out.trans (hb4.mono B3.out.size))
  clear hge hci hb4
  go_wp2_with fail
  refine (TW.out).mono ?_
  rintro e w5 ⟨rfl, ⟨cs5, hw5⟩, he5⟩
  have FIN : Hid (Sees w5 (.slice (some ⟨q, 0, none⟩) (8 + L) c3) (wrp key b n) ∧ Below w.heap.size w w5) := by
    have ok := tn_ok (fun x hx => enc_bts HK.out hx) (show 0 < n by have := N12.out; omega) HLN.out HBY.out (6 * n) (by have := N12.out; omega)
    have := hw5.sees (cap := c3) ok.2 (by rw [show (wrp key b n).length = _ from ok.1]; omega) (by rw [show (wrp key b n).length = _ from ok.1, ← HLN.out]; exact HC3.out) HM3.out
    rw [show (wrp key b n).length = _ from ok.1, ← HE8.out] at this
    exact ⟨this, he5.2.1 w.heap.size w HQ3.out B4.out.size B4.out⟩
  clear hw5 he5
  go_wp2_with fail
  go_ret2
  rw [Nat.add_comm L 8]
  exact ⟨_, _, rfl, FIN.out⟩
set_option maxRecDepth 100000 in
theorem take_snoc (l : List Nat) (k : Nat) (h : k < l.length) : l.take (k + 1) = l.take k ++ [at_ l k] := by
  rw [← List.take_append_getElem h]
  simp [at_, List.getD, h]
set_option maxRecDepth 100000 in
theorem bits_xor8 (a b : Nat) : bits .xor .u8 (a : Int) (b : Int) = ((BitVec.ofNat 8 a ^^^ BitVec.ofNat 8 b).toNat : Int) := by
  have e : bits .xor .u8 (a : Int) (b : Int) = IntKind.u8.wrap ((BitVec.ofInt 8 (a : Int) ^^^ BitVec.ofInt 8 (b : Int)).toNat : Int) := rfl
  rw [e, BitVec.ofInt_natCast, BitVec.ofInt_natCast]
  exact u8nat _ (BitVec.isLt _)
set_option maxRecDepth 100000 in
theorem bits_or8 (a b : Nat) : bits .or .u8 (a : Int) (b : Int) = ((BitVec.ofNat 8 a ||| BitVec.ofNat 8 b).toNat : Int) := by
  have e : bits .or .u8 (a : Int) (b : Int) = IntKind.u8.wrap ((BitVec.ofInt 8 (a : Int) ||| BitVec.ofInt 8 (b : Int)).toNat : Int) := rfl
  rw [e, BitVec.ofInt_natCast, BitVec.ofInt_natCast]
  exact u8nat _ (BitVec.isLt _)
set_option maxRecDepth 100000 in
theorem xor8_zero (x y : Int) (hx : 0 ≤ x ∧ x ≤ 255) (hy : 0 ≤ y ∧ y ≤ 255) : (bits .xor .u8 x y = 0 ↔ x = y) ∧ 0 ≤ bits .xor .u8 x y ∧ bits .xor .u8 x y ≤ 255 := by
  obtain ⟨a, rfl⟩ := Int.eq_ofNat_of_zero_le hx.1
  obtain ⟨b, rfl⟩ := Int.eq_ofNat_of_zero_le hy.1
  rw [bits_xor8]
  have hl := (BitVec.ofNat 8 a ^^^ BitVec.ofNat 8 b).isLt
  refine ⟨?_, by omega, by omega⟩
  constructor
  · intro h
    have h1 : (BitVec.ofNat 8 a ^^^ BitVec.ofNat 8 b) = 0#8 := BitVec.eq_of_toNat_eq ((Int.ofNat_eq_zero.1 h).trans rfl)
    have h2 := BitVec.xor_eq_zero_iff.1 h1
    have h3 := congrArg BitVec.toNat h2
    simp at h3
    omega
  · intro h
    have : a = b := by omega
    subst this
    simp
set_option maxRecDepth 100000 in
theorem or8_zero (x y : Int) (hx : 0 ≤ x ∧ x ≤ 255) (hy : 0 ≤ y ∧ y ≤ 255) : (bits .or .u8 x y = 0 ↔ x = 0 ∧ y = 0) ∧ 0 ≤ bits .or .u8 x y ∧ bits .or .u8 x y ≤ 255 := by
  obtain ⟨a, rfl⟩ := Int.eq_ofNat_of_zero_le hx.1
  obtain ⟨b, rfl⟩ := Int.eq_ofNat_of_zero_le hy.1
  rw [bits_or8]
  have hl := (BitVec.ofNat 8 a ||| BitVec.ofNat 8 b).isLt
  refine ⟨?_, by omega, by omega⟩
  constructor
  · intro h
    have h1 : (BitVec.ofNat 8 a ||| BitVec.ofNat 8 b) = 0#8 := BitVec.eq_of_toNat_eq ((Int.ofNat_eq_zero.1 h).trans rfl)
    have h2 := BitVec.or_eq_zero_iff.1 h1
    have h3 := congrArg BitVec.toNat h2.1
    have h4 := congrArg BitVec.toNat h2.2
    simp at h3 h4
    omega
  · intro h
    have h1 : a = 0 := by omega
    have h2 : b = 0 := by omega
    subst h1 h2
    simp

set_option maxRecDepth 100000 in
theorem same_len (x y : Option Addr) (l m c d : Nat) (h : ¬ l = m) (w : World) :
    Calls Tryz.prog 13 #[.slice x l c, .slice y m d] w fun e w' => e = .returned (.bool false) ∧ w = w' := by
  go_enter Tryz.func13, Tryz.ntmps13
  go_wp2
  go_ret
  exact ⟨rfl, rfl⟩
set_option maxRecDepth 100000 in
theorem same_plain (b o cap b2 o2 cap2 : Nat) (xs ys : List Nat) (hx : Byt xs) (hy : Byt ys) (hl : ys.length = xs.length) (hm : xs.length ≤ 9223372036854775807) (w : World)
    (hc : ∀ i, i < xs.length → w.cell? ⟨b, o + i, none⟩ = some (.int .u8 (at_ xs i : Nat))) (hd : ∀ i, i < xs.length → w.cell? ⟨b2, o2 + i, none⟩ = some (.int .u8 (at_ ys i : Nat))) :
    Calls Tryz.prog 13 #[.slice (some ⟨b, o, none⟩) xs.length cap, .slice (some ⟨b2, o2, none⟩) xs.length cap2] w fun e w' => e = .returned (.bool (decide (xs = ys))) ∧ w = w' := by
  go_enter Tryz.func13, Tryz.ntmps13
  go_wp2
  go_loop [5, 15] (fun u i => ∃ (k : Nat) (z : Int), k ≤ xs.length ∧ i = .int .i64 k ∧ u = .int .u8 z ∧ 0 ≤ z ∧ z ≤ 255 ∧ (z = 0 ↔ xs.take k = ys.take k)) (fun _ i => xs.length - (intOf i).toNat)
  case atStart => exact ⟨0, 0, by omega, rfl, rfl, by omega, by omega, by simp⟩
  case round =>
    obtain ⟨k, z, hk, rfl, rfl, h0, h1, hz⟩ := hrel
    have HZ := Lib.hid hz
    clear hz
    by_cases hlt : k < xs.length
    · have c1 := hc k hlt
      have c2 := hd k hlt
      have g1 := hx.at k
      have g2 := hy.at k
      have T1 := Lib.hid (take_snoc xs k hlt)
      have T2 := Lib.hid (take_snoc ys k (by omega))
      have X := Lib.hid (xor8_zero (at_ xs k : Nat) (at_ ys k : Nat) ⟨by omega, by omega⟩ ⟨by omega, by omega⟩)
      have O := Lib.hid (or8_zero z (bits .xor .u8 (at_ xs k : Nat) (at_ ys k : Nat)) ⟨h0, h1⟩ X.out.2)
      clear hc hd
      go_wp2
      go_round
      case rel =>
        refine ⟨k + 1, _, by omega, by go_num, rfl, O.out.2.1, O.out.2.2, ?_⟩
        rw [O.out.1, X.out.1, HZ.out, T1.out, T2.out]
        constructor
        · rintro ⟨e1, e2⟩
          rw [e1, Int.natCast_inj.1 e2]
        · intro e
          have := List.append_inj e (by simp; omega)
          exact ⟨this.1, by
            have h2 := this.2
            simp only [List.cons.injEq, and_true] at h2
            omega⟩
      case measure => simp [intOf]; omega
    · obtain rfl : k = xs.length := by omega
      have e1 : xs.take xs.length = xs := List.take_length
      have e2 : ys.take xs.length = ys := by rw [← hl]; exact List.take_length
      have HE : Hid ((z == 0) = decide (xs = ys)) := by
        show (z == 0) = decide (xs = ys)
        have := HZ.out
        rw [e1, e2] at this
        rw [Bool.eq_iff_iff]
        simp [this]
      clear hc hd e1 e2
      go_wp2
      go_ret
      refine ⟨?_, rfl⟩
      rw [← HE.out]
      rfl
set_option maxRecDepth 100000 in
theorem same_zero (x y : Option Addr) (c d : Nat) (w : World) : Calls Tryz.prog 13 #[.slice x 0 c, .slice y 0 d] w fun e w' => e = .returned (.bool true) ∧ w = w' := by
  go_enter Tryz.func13, Tryz.ntmps13
  go_wp2
  go_loop [5, 15] (fun u i => u = .int .u8 0 ∧ i = .int .i64 0) (fun _ _ => 0)
  case atStart => exact ⟨rfl, rfl⟩
  case round =>
    obtain ⟨rfl, rfl⟩ := hrel
    go_wp2
    go_ret
    exact ⟨rfl, rfl⟩
set_option maxRecDepth 100000 in
theorem same (v u : Value) (xs ys : List Nat) (w : World) (h : Sees w v xs) (k : Sees w u ys) : Calls Tryz.prog 13 #[v, u] w fun e w' => e = .returned (.bool (decide (xs = ys))) ∧ w = w' := by
  by_cases hl : xs.length = ys.length
  · by_cases h0 : xs = []
    · subst h0
      obtain rfl := List.length_eq_zero_iff.1 hl.symm
      obtain ⟨x, c, rfl, _⟩ := h.form
      obtain ⟨y, d, rfl, _⟩ := k.form
      exact same_zero x y c d w
    · have h1 : ys ≠ [] := fun e => h0 (List.length_eq_zero_iff.1 (by rw [hl, e]; rfl))
      obtain ⟨hb, ⟨_, h2⟩ | ⟨_, _, _, h2, _⟩ | ⟨b, o, cap, rfl, _, _, hm, hc⟩⟩ := h
      · exact (h0 h2).elim
      · exact (h0 h2).elim
      obtain ⟨hb2, ⟨_, h2⟩ | ⟨_, _, _, h2, _⟩ | ⟨b2, o2, cap2, rfl, _, _, _, hd⟩⟩ := k
      · exact (h1 h2).elim
      · exact (h1 h2).elim
      rw [← hl] at hd ⊢
      unfold maxLen at hm
      exact same_plain b o cap b2 o2 cap2 xs ys hb hb2 hl.symm (by omega) w hc hd
  · obtain ⟨x, c, rfl, _⟩ := h.form
    obtain ⟨y, d, rfl, _⟩ := k.form
    rw [show decide (xs = ys) = false from decide_eq_false (fun e => hl (by rw [e]))]
    exact same_len x y _ _ c d hl w
/-- The words of a text, n and the front, turned back. -/
def unw (key b : List Nat) (n : Nat) : List Nat := bt (dec key) n (6 * n) b
set_option maxRecDepth 100000 in
theorem spl_all {l S : List Nat} (h : S.length = l.length) : spl l 0 S = S := by
  unfold spl
  simp [h]
set_option maxRecDepth 100000 in
theorem sl_to8 (q L cap : Nat) (hc : 8 ≤ cap) (W : World) : (Instr.slice 31 (.slice (some ⟨q, 0, none⟩) L cap) none (some (.int .i64 8)) none).run Tryz.prog W = .ok (.slice (some ⟨q, 0, none⟩) 8 cap) W := by
  rw [run_slice_h W 31 (some ⟨q, 0, none⟩) L cap (by kernel_rfl) .i64 8 (by omega) (by omega), size5']
  simp [Result.andThen, sliced, addr_add]
set_option maxRecDepth 100000 in
set_option maxHeartbeats 8000000 in
theorem unwrapYes (key b : List Nat) (hk : Bts 32 key) (n : Nat) (x : Option Addr) (L cap : Nat) (w : World) (hs : Sees w (.slice x L cap) b) (hL : L = b.length) (hn : L = 8 * (n + 1)) (h1 : 2 ≤ n) (h2 : n ≤ 16) :
    Calls Tryz.prog 14 #[.agg (ncells key), .slice x L cap] w fun e w' => Below w.heap.size w w' ∧ ((unw key b n).take 8 = fr8 ∧ (∃ q c, e = .returned (.tuple #[.slice q (L - 8 : Nat) c, .int .i64 0]) ∧ Sees w' (.slice q (L - 8 : Nat) c) ((unw key b n).drop 8)) ∨ (unw key b n).take 8 ≠ fr8 ∧ e = .returned (.tuple #[.slice none 0 0, .int .i64 20])) := by
  obtain ⟨U, hU⟩ : ∃ U, U = unw key b n := ⟨_, rfl⟩
  rw [← hU]
  have HU := Lib.hid hU
  clear hU
  obtain ⟨w1, hw1⟩ : ∃ w1, w1 = w.alloc (.cells (ncells key) 23) := ⟨_, rfl⟩
  have IW := Lib.hid (isWordsC ((L : Int) - 8) ⟨by omega, by omega⟩ w1)
  have hw : isW ((L : Int) - 8) = true := by unfold isW; simp; omega
  rw [hw] at IW
  obtain ⟨z, hz⟩ : ∃ z, z = (L : Int) - 8 := ⟨_, rfl⟩
  rw [← hz] at IW
  have hzi : IntKind.i64.wrap ((L : Int) - 8) = z := by rw [hz]; exact IntWalk.i64_in _ (by omega)
  have b1 : Below w.heap.size w w1 := by rw [hw1]; exact (Below.refl _ _).alloc (Nat.le_refl _) _
  have g1 : w1.heap[w.heap.size]? = some (.cells (ncells key) 23 (0, 0)) := by rw [hw1]; exact heap_alloc_new w _
  have mk := mkN L (by omega) w1
  obtain ⟨q, hq⟩ : ∃ q, q = w1.heap.size := ⟨_, rfl⟩
  obtain ⟨w2, hw2⟩ : ∃ w2, w2 = w1.alloc (.cells (ncells (zeros L)) 5) := ⟨_, rfl⟩
  rw [← hw2, ← hq] at mk
  have b2 : Below w1.heap.size w1 w2 := by rw [hw2]; exact (Below.refl _ _).alloc (Nat.le_refl _) _
  have s2 := (hs.below b1).below b2
  obtain ⟨bb, oo, rfl, hLc, hcl, hcm, hcc⟩ := s2.cells (fun e => by rw [e] at hL; simp at hL; omega)
  have hzl : (zeros L).length = L := zeros_len L
  have W0 : WR w2 q (zeros L) (ncells (zeros L)) := ⟨by rw [hw2, hq]; exact heap_alloc_new w1 _, by rw [nsize]; exact Nat.le_refl _, fun j hj => by
    rw [hzl] at hj
    exact ncell (zeros L) j (by omega)⟩
  obtain ⟨cs, hc, h3⟩ := copyW (ty := 3) (off := 0) (dLen := L) (dCap := L) (sLen := L) (sCap := cap) (b := bb) (o := oo) (S := b) (m := L) W0 hL.symm (by show L = min L L; omega) (fun j hj => hcc j (by omega)) (by omega)
  rw [spl_all (by omega)] at h3
  obtain ⟨w3, hw3⟩ : ∃ w3, w3 = w2.setRow q cs := ⟨_, rfl⟩
  rw [← hw3] at hc h3
  have b3 : Below w.heap.size w w3 := by
    rw [hw3]
    exact (b1.trans (b2.mono b1.size)).trans (below_row _ _ (by rw [hq]; exact b1.size))
  have hqs : w.heap.size ≠ q := by rw [hq]; exact Nat.ne_of_lt (blk_lt g1)
  have g3 : w3.heap[w.heap.size]? = some (.cells (ncells key) 23 (0, 0)) := by
    rw [hw3, setRow_other _ _ _ _ hqs]
    exact (b2.block _ (blk_lt g1)).trans g1
  have hq3 : w.heap.size ≤ q := by rw [hq]; exact b1.size
  have hbyt := hs.1
  have hlen : b.length = 8 * (n + 1) := by omega
  have MK := Lib.hid mk
  have CP := Lib.hid hc
  have WR3 := Lib.hid h3
  have G3 := Lib.hid g3
  have B3 := Lib.hid b3
  have NC := Lib.hid (newC key hk w3)
  have KL := Lib.hid hk.1
  have HK := Lib.hid hk
  have HLN := Lib.hid hlen
  have HBY := Lib.hid hbyt
  have HN := Lib.hid hn
  have HQ3 := Lib.hid hq3
  have HW1 := Lib.hid hw1
  have HLb := Lib.hid hL
  have N12 : Hid (2 ≤ n ∧ n ≤ 16) := ⟨h1, h2⟩
  have S1 := Lib.hid (sl_to8 q L L (by omega))
  have S2 := Lib.hid (sl_from0 q L L 8 (by omega) (Nat.le_refl _))
  have hL8 : (9 : Int) ≤ L := by omega
  have hne8 : ¬ L = 8 := by omega
  have hne9 : ¬ L ≤ 8 := by omega
  have hLm : (L : Int) ≤ 136 := by omega
  clear hLc hs hL hn hw hw1 b1 g1 hw2 b2 s2 W0 h3 b3 g3 hk hlen hbyt h1 h2 hq3 mk hc hcl hcm hcc hzl hqs hw3 hq hz
  go_enter Tryz.func14, Tryz.ntmps14
  go_wp2_with fail
  rw [← HW1.out]
  refine (IW.out).mono ?_
  rintro e w' ⟨rfl, rfl⟩
  have mk := MK.out
  have cp := CP.out
  go_wp2_with (refine wpList_load_row rfl 23 (.tmp 2) rfl w.heap.size rfl 23 (ncells key) (0, 0) _ G3.out Tryz.underlying23 rfl (i23 KL.out) ?_)
  clear mk cp
  refine (NC.out).mono ?_
  rintro e w4 ⟨gc, rfl, hge, hci, hb4⟩
  have TW : Hid (Calls Tryz.prog 28 #[.pointer (some ⟨gc, 0, none⟩), .slice (some ⟨q, 0, none⟩) L L] w4 fun e w' => e = .returned (.tuple #[]) ∧ (∃ cs', WR w' q U cs') ∧ Elsewhere q w4 w') := by
    show Calls _ _ _ _ _
    rw [HN.out, HU.out]
    exact turnBackW key b HK.out gc n q _ cs w4 hci (WR3.out.below hb4) HBY.out HLN.out (by have := N12.out; omega) N12.out.2 (Nat.le_refl _)
  have B4 := Lib.hid (B3.out.trans (hb4.mono B3.out.size))
  have OK : Hid (U.length = L ∧ Byt U) := by
    rw [HU.out]
    have := bt_ok (fun x hx => dec_bts HK.out hx) (show 0 < n by have := N12.out; omega) (6 * n) (by have := N12.out; omega) b HLN.out HBY.out
    exact ⟨by rw [HN.out]; exact this.1, this.2⟩
  clear hge hci hb4
  go_wp2_with fail
  refine (TW.out).mono ?_
  rintro e w5 ⟨rfl, ⟨cs5, hw5⟩, he5⟩
  have B5 : Hid (Below w.heap.size w w5) := he5.2.1 w.heap.size w HQ3.out B4.out.size B4.out
  have FC := Lib.hid (frontC w5.drew)
  obtain ⟨w6, hw6⟩ : ∃ w6, w6 = w5.drew.alloc (.cells (ncells fr8) 5) := ⟨_, rfl⟩
  rw [← hw6] at FC
  have b6 : Below w5.heap.size w5 w6 := by rw [hw6]; exact (Below.refl _ _).drew.alloc (Nat.le_refl _) _
  have B6 : Hid (Below w.heap.size w w6) := B5.out.trans (b6.mono B5.out.size)
  have W6 := hw5.below b6
  have LU := OK.out.1
  have SA : Sees w6 (.slice (some ⟨q, 0, none⟩) 8 L) (U.take 8) := by
    refine ⟨OK.out.2.take 8, .inr (.inr ⟨q, 0, L, by rw [List.length_take, LU]; congr 1; omega, fun e => ?_, by rw [List.length_take, LU]; omega, by unfold maxLen; omega, fun i hi => ?_⟩)⟩
    · have := congrArg List.length e
      rw [List.length_take, LU] at this
      simp at this
      omega
    · rw [List.length_take, LU] at hi
      rw [Nat.zero_add, W6.cell (by omega), at_take (by omega)]
  have SF : Sees w6 (.slice (some ⟨w5.heap.size, 0, none⟩) 8 8) fr8 := by
    rw [hw6]; exact (own_lit w5.drew w5.heap.size fr8 fr8_byt (by rw [fr8_len]; simp [maxLen]) (Nat.le_refl _)).sees
  have SD : Sees w6 (.slice (some ⟨q, 8, none⟩) (L - 8 : Nat) (L - 8 : Nat)) (U.drop 8) := by
    refine ⟨OK.out.2.drop 8, .inr (.inr ⟨q, 8, L - 8, by rw [List.length_drop, LU], fun e => ?_, by rw [List.length_drop, LU]; exact Nat.le_refl _, by unfold maxLen; omega, fun i hi => ?_⟩)⟩
    · have := congrArg List.length e
      rw [List.length_drop, LU] at this
      have := N12.out
      have := HN.out
      simp at *
      omega
    · rw [List.length_drop, LU] at hi
      rw [W6.cell (by omega), at_drop]
  have SC := Lib.hid (same _ _ _ _ w6 SA SF)
  have HSD := Lib.hid SD
  have s1 := S1.out
  have s2 := S2.out
  clear hw5 he5 hw6 b6 W6 LU SA SF SD
  by_cases d : U.take 8 = fr8
  · have D := Lib.hid d
    rw [show decide (U.take 8 = fr8) = true from decide_eq_true d] at SC
    clear d
    go_wp2_with fail
    go_region_held3 (fun W => Below w.heap.size w W) (first | exact B5.out.drew | exact B6.out | assumption) ((first | (go_at_call 30; refine (FC.out).mono ?_; rintro e w7 ⟨rfl, rfl⟩) | (go_at_call 13; refine (SC.out).mono ?_; rintro e w8 ⟨rfl, rfl⟩)))
    go_wp2_with fail
    go_ret2
    exact ⟨B6.out, .inl ⟨D.out, _, _, rfl, HSD.out⟩⟩
  · have D := Lib.hid d
    rw [show decide (U.take 8 = fr8) = false from decide_eq_false d] at SC
    clear d
    go_wp2_with fail
    go_region_held3 (fun W => Below w.heap.size w W) (first | exact B5.out.drew | exact B6.out | assumption) ((first | (go_at_call 30; refine (FC.out).mono ?_; rintro e w7 ⟨rfl, rfl⟩) | (go_at_call 13; refine (SC.out).mono ?_; rintro e w8 ⟨rfl, rfl⟩)))
    go_wp2_with fail
    go_ret2
    exact ⟨B6.out, .inr ⟨D.out, rfl⟩⟩
end Go.Proofs.YtpkeofioobmmoaaGreatDoor.ae
