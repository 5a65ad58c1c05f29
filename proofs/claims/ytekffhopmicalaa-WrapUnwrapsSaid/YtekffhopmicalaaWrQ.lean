/-
  Contracts of package wrap: Wrap, Unwrap, and what must come of fixed calls. Condition: the numbers are bytes.
-/
import Derived.Test.YtekffhopmicalaaWrP
import Derived.Deep.RegionHeld3
import Derived.Test.YtekffhopmicalaaAesAl
namespace Go.Proofs.Ytekffhopmicalaa
open Go.RowKit
/-- May so many bytes be wrapped? -/
def isW (n : Int) : Bool := decide (16 ≤ n ∧ n ≤ 128 ∧ n % 8 = 0)
theorem isWordsC (n : Int) (hn : -9223372036854775808 ≤ n ∧ n ≤ 9223372036854775807) (w : World) : Calls Try.prog 57 #[.int .i64 n] w fun e w' => e = .returned (.bool (isW n)) ∧ w = w' := by
  by_cases h1 : 16 ≤ n
  · by_cases h2 : n ≤ 128
    · obtain ⟨r, hr⟩ : ∃ r : Nat, n % 8 = (r : Int) := ⟨(n % 8).toNat, by omega⟩
      have tr : n.tmod 8 = (r : Int) := by rw [Int.tmod_eq_emod_of_nonneg (by omega)]; exact hr
      by_cases h3 : r = 0
      · have z : ((r : Int) == 0) = true := by simp [h3]
        have D : Hid (isW n = true) := by show isW n = _; unfold isW; simp; omega
        clear hr h3
        go_enter Try.func57, Try.ntmps57
        go_wp2_with fail
        go_ret
        exact ⟨by rw [D.out]; rfl, rfl⟩
      · have z : ((r : Int) == 0) = false := by simp [h3]
        have D : Hid (isW n = false) := by show isW n = _; unfold isW; simp; omega
        clear hr h3
        go_enter Try.func57, Try.ntmps57
        go_wp2_with fail
        go_ret
        exact ⟨by rw [D.out]; rfl, rfl⟩
    · have D : Hid (isW n = false) := by show isW n = _; unfold isW; simp; omega
      go_enter Try.func57, Try.ntmps57
      go_wp2_with fail
      go_ret
      exact ⟨by rw [D.out]; rfl, rfl⟩
  · have D : Hid (isW n = false) := by show isW n = _; unfold isW; simp; omega
    go_enter Try.func57, Try.ntmps57
    go_wp2_with fail
    go_ret
    exact ⟨by rw [D.out]; rfl, rfl⟩
/-- The word in front. -/
def fr8 : List Nat := List.replicate 8 166
theorem frontC (w : World) : Calls Try.prog 58 #[] w fun e w' => e = .returned (.slice (some ⟨w.heap.size, 0, none⟩) 8 8) ∧ w' = w.alloc (.cells (ncells fr8) 5) := by
  go_enter Try.func58, Try.ntmps58
  go_wp2_with fail
  go_ret
  exact ⟨rfl, rfl⟩
theorem fr8_len : fr8.length = 8 := rfl
theorem fr8_byt : Byt fr8 := fun x hx => by rw [List.eq_of_mem_replicate hx]; omega
theorem own_lit (w : World) (base : Nat) (l : List Nat) (hb : Byt l) (hm : l.length ≤ maxLen) (hs : base ≤ w.heap.size) : Own (w.alloc (.cells (ncells l) 5)) base (.slice (some ⟨w.heap.size, 0, none⟩) l.length l.length) l := by
  have h := World.ownsRow_lit (base := base) (e := 5) (size := 1) w (ncells l) l.length hs hm (by rw [nsize, Nat.mul_one])
  refine ⟨hb, ?_⟩
  simpa [ncells] using h
theorem Own.wr {w : World} {base cap : Nat} {x : Option Addr} {l : List Nat} (h : Own w base (.slice x l.length cap) l) (h0 : 0 < l.length) : ∃ q cs, x = some ⟨q, 0, none⟩ ∧ WR w q l cs ∧ l.length ≤ cap ∧ cap ≤ maxLen ∧ base ≤ q := by
  obtain ⟨h1, h2, ⟨_, h3⟩ | ⟨g, cap', cur, hv, hb, hg, hn, hc, hs, ht⟩⟩ := h
  · omega
  · simp only [Value.slice.injEq] at hv
    obtain ⟨rfl, _, rfl⟩ := hv
    refine ⟨g, cur, rfl, ⟨hg, by omega, fun j hj => ?_⟩, hn, hc, hb⟩
    have e : cur.toList[j]? = (l.map fun n : Nat => Value.int .u8 (n : Int))[j]? := by
      rw [← ht, List.getElem?_take_of_lt (by simpa using hj)]
    rw [Array.getElem?_toList] at e
    rw [e, List.getElem?_map, List.getElem?_eq_getElem hj]
    simp [at_, List.getD, hj]
theorem WR.sees {w : World} {q cap : Nat} {l : List Nat} {cs : Array Value} (h : WR w q l cs) (hb : Byt l) (h0 : 0 < l.length) (hc : l.length ≤ cap) (hm : cap ≤ maxLen) : Sees w (.slice (some ⟨q, 0, none⟩) l.length cap) l :=
  ⟨hb, .inr (.inr ⟨q, 0, cap, rfl, fun e => by rw [e] at h0; simp at h0, hc, hm, fun i hi => by rw [Nat.zero_add]; exact h.cell hi⟩)⟩
/-- A wrap of n words. -/
def wrp (key b : List Nat) (n : Nat) : List Nat := tn (enc key) (fr8 ++ b) n (6 * n)
set_option maxRecDepth 100000 in
set_option maxHeartbeats 8000000 in
theorem wrapNo (key : List Nat) (x : Option Addr) (L cap : Nat) (w : World) (hm : L ≤ 9223372036854775807) (h : isW L = false) :
    Calls Try.prog 35 #[.agg (ncells key), .slice x L cap] w fun e w' => e = .returned (.tuple #[.slice none 0 0, .int .i64 3]) ∧ Below w.heap.size w w' := by
  have IW := Lib.hid (isWordsC (L : Int) ⟨by omega, by omega⟩ (w.alloc (.cells (ncells key) 23)))
  rw [h] at IW
  clear h
  go_enter Try.func35, Try.ntmps35
  go_wp2_with fail
  refine (IW.out).mono ?_
  rintro e w' ⟨rfl, rfl⟩
  go_wp2_with fail
  go_ret2
  exact ⟨rfl, (Below.refl _ _).alloc (Nat.le_refl _) _⟩
set_option maxRecDepth 100000 in
set_option maxHeartbeats 8000000 in
theorem wrapYes (key b : List Nat) (hk : Bts 32 key) (n : Nat) (x : Option Addr) (L cap : Nat) (w : World) (hs : Sees w (.slice x L cap) b) (hL : L = b.length) (hn : L = 8 * n) (h1 : 2 ≤ n) (h2 : n ≤ 16) :
    Calls Try.prog 35 #[.agg (ncells key), .slice x L cap] w fun e w' => ∃ q c, e = .returned (.tuple #[.slice q (L + 8) c, .int .i64 0]) ∧ Sees w' (.slice q (L + 8) c) (wrp key b n) ∧ Below w.heap.size w w' := by
  have IW := Lib.hid (isWordsC (L : Int) ⟨by omega, by omega⟩ (w.alloc (.cells (ncells key) 23)))
  have hw : isW L = true := by unfold isW; simp; omega
  rw [hw] at IW
  have FC := Lib.hid (frontC (w.alloc (.cells (ncells key) 23)))
  obtain ⟨w1, hw1⟩ : ∃ w1, w1 = w.alloc (.cells (ncells key) 23) := ⟨_, rfl⟩
  rw [← hw1] at IW FC
  have b1 : Below w.heap.size w w1 := by rw [hw1]; exact (Below.refl _ _).alloc (Nat.le_refl _) _
  have g1 : w1.heap[w.heap.size]? = some (.cells (ncells key) 23 (0, 0)) := by rw [hw1]; exact heap_alloc_new w _
  obtain ⟨w2, hw2⟩ : ∃ w2, w2 = w1.alloc (.cells (ncells fr8) 5) := ⟨_, rfl⟩
  rw [← hw2] at FC
  have b2 : Below w1.heap.size w1 w2 := by rw [hw2]; exact (Below.refl _ _).alloc (Nat.le_refl _) _
  have o2 : Own w2 w.heap.size (.slice (some ⟨w1.heap.size, 0, none⟩) 8 8) fr8 := by rw [hw2]; exact own_lit w1 w.heap.size fr8 fr8_byt (by rw [fr8_len]; simp [maxLen]) b1.size
  have s2 := (hs.below b1).below b2
  obtain ⟨x3, c3, w3, hrun, o3, gr3, b3⟩ := app o2 s2 (by rw [fr8_len, ← hL]; omega) (Nat.le_trans b1.size b2.size)
  rw [fr8_len, ← hL] at hrun o3
  have hlen : (fr8 ++ b).length = 8 * (n + 1) := by rw [List.length_append, fr8_len, ← hL]; omega
  have hbyt : Byt (fr8 ++ b) := fr8_byt.append hs.1
  have e8 : 8 + L = 8 * (n + 1) := by omega
  have o3' : Own w3 w.heap.size (.slice x3 (fr8 ++ b).length c3) (fr8 ++ b) := by rw [hlen, ← e8]; exact o3
  obtain ⟨q, cs, rfl, wr3, hc3, hm3, hq3⟩ := o3'.wr (by omega)
  have g2 := (b2.block _ (blk_lt g1)).trans g1
  have g3 : w3.heap[w.heap.size]? = some (.cells (ncells key) 23 (0, 0)) := (gr3.block _ (blk_lt g2) (by
    have := blk_lt g1
    simp [Value.ownBlock]; omega)).trans g2
  have HR := Lib.hid hrun
  have WR3 := Lib.hid wr3
  have G3 := Lib.hid g3
  have B3 : Hid (Below w.heap.size w w3) := (b1.trans (b2.mono b1.size)).trans b3
  have NC := Lib.hid (newC key hk w3)
  have KL := Lib.hid hk.1
  have HK := Lib.hid hk
  have HLN := Lib.hid hlen
  have HBY := Lib.hid hbyt
  have HE8 := Lib.hid e8
  have HQ3 := Lib.hid hq3
  have HC3 := Lib.hid hc3
  have HM3 := Lib.hid hm3
  have HW1 := Lib.hid hw1
  have N12 : Hid (2 ≤ n ∧ n ≤ 16) := ⟨h1, h2⟩
  clear hs hL hn hw hw1 b1 g1 hw2 b2 o2 s2 o3 o3' gr3 b3 g2 g3 hrun wr3 hk hlen hbyt e8 hc3 hm3 hq3 h1 h2
  go_enter Try.func35, Try.ntmps35
  go_wp2_with fail
  rw [← HW1.out]
  refine (IW.out).mono ?_
  rintro e w' ⟨rfl, rfl⟩
  go_wp2_with fail
  refine (FC.out).mono ?_
  rintro e w' ⟨rfl, rfl⟩
  go_wp2_with (first
    | (at_builtin; refine wpList_app rfl _ _ rfl rfl rfl rfl HR.out ?_)
    | (refine wpList_load_row rfl 23 (.tmp 2) rfl w.heap.size rfl 23 (ncells key) (0, 0) _ G3.out Try.underlying23 rfl (i23 KL.out) ?_))
  refine (NC.out).mono ?_
  rintro e w4 ⟨gc, rfl, hge, hci, hb4⟩
  have TW : Hid (Calls Try.prog 59 #[.pointer (some ⟨gc, 0, none⟩), .slice (some ⟨q, 0, none⟩) (8 + L) c3] w4 fun e w' => e = .returned (.tuple #[]) ∧ (∃ cs', WR w' q (wrp key b n) cs') ∧ Elsewhere q w4 w') := by
    show Calls _ _ _ _ _
    rw [HE8.out]
    exact turnW key (fr8 ++ b) HK.out gc n q c3 cs w4 hci (WR3.out.below hb4) HBY.out HLN.out (by have := N12.out; omega) N12.out.2 (by rw [← HLN.out]; exact HC3.out)
  have B4 := Lib.hid (B3.out.trans (hb4.mono B3.out.size))
  clear hge hci hb4
  go_wp2_with fail
  refine (TW.out).mono ?_
  rintro e w5 ⟨rfl, ⟨cs5, hw5⟩, he5⟩
  have FIN : Hid (Sees w5 (.slice (some ⟨q, 0, none⟩) (8 + L) c3) (wrp key b n) ∧ Below w.heap.size w w5) := by
    have ok := tn_ok (fun x hx => enc_bts HK.out hx) (show 0 < n by have := N12.out; omega) HLN.out HBY.out (6 * n) (by have := N12.out; omega)
    have := hw5.sees (cap := c3) ok.2 (by rw [show (wrp key b n).length = _ from ok.1]; omega) (by rw [show (wrp key b n).length = _ from ok.1, ← HLN.out]; exact HC3.out) HM3.out
    rw [show (wrp key b n).length = _ from ok.1, ← HE8.out] at this
    exact ⟨this, he5.2.1 w.heap.size w HQ3.out B4.out.size B4.out⟩
  clear hw5 he5
  go_wp2_with fail
  go_ret2
  rw [Nat.add_comm L 8]
  exact ⟨_, _, rfl, FIN.out⟩
theorem take_snoc (l : List Nat) (k : Nat) (h : k < l.length) : l.take (k + 1) = l.take k ++ [at_ l k] := by
  rw [← List.take_append_getElem h]
  simp [at_, List.getD, h]
theorem ofInt8 (a : Nat) : BitVec.ofInt IntKind.u8.bits (a : Int) = BitVec.ofNat 8 a := BitVec.ofInt_natCast ..
theorem bits_xor8 (a b : Nat) : bits .xor .u8 (a : Int) (b : Int) = ((BitVec.ofNat 8 a ^^^ BitVec.ofNat 8 b).toNat : Int) := by
  have e : bits .xor .u8 (a : Int) (b : Int) = IntKind.u8.wrap ((BitVec.ofInt 8 (a : Int) ^^^ BitVec.ofInt 8 (b : Int)).toNat : Int) := rfl
  rw [e, BitVec.ofInt_natCast, BitVec.ofInt_natCast]
  exact u8nat _ (BitVec.isLt _)
theorem bits_or8 (a b : Nat) : bits .or .u8 (a : Int) (b : Int) = ((BitVec.ofNat 8 a ||| BitVec.ofNat 8 b).toNat : Int) := by
  have e : bits .or .u8 (a : Int) (b : Int) = IntKind.u8.wrap ((BitVec.ofInt 8 (a : Int) ||| BitVec.ofInt 8 (b : Int)).toNat : Int) := rfl
  rw [e, BitVec.ofInt_natCast, BitVec.ofInt_natCast]
  exact u8nat _ (BitVec.isLt _)
theorem xor8_zero (x y : Int) (hx : 0 ≤ x ∧ x ≤ 255) (hy : 0 ≤ y ∧ y ≤ 255) : (bits .xor .u8 x y = 0 ↔ x = y) ∧ 0 ≤ bits .xor .u8 x y ∧ bits .xor .u8 x y ≤ 255 := by
  obtain ⟨a, rfl⟩ := Int.eq_ofNat_of_zero_le hx.1
  obtain ⟨b, rfl⟩ := Int.eq_ofNat_of_zero_le hy.1
  rw [bits_xor8]
  have hl := (BitVec.ofNat 8 a ^^^ BitVec.ofNat 8 b).isLt
  refine ⟨?_, by omega, by omega⟩
  constructor
  · intro h
    have h1 : (BitVec.ofNat 8 a ^^^ BitVec.ofNat 8 b) = 0#8 := BitVec.eq_of_toNat_eq ((Int.ofNat_eq_zero.1 h).trans rfl)
    have h2 := BitVec.xor_eq_zero_iff.1 h1
    have h3 := congrArg BitVec.toNat h2
    simp at h3
    omega
  · intro h
    have : a = b := by omega
    subst this
    simp
theorem or8_zero (x y : Int) (hx : 0 ≤ x ∧ x ≤ 255) (hy : 0 ≤ y ∧ y ≤ 255) : (bits .or .u8 x y = 0 ↔ x = 0 ∧ y = 0) ∧ 0 ≤ bits .or .u8 x y ∧ bits .or .u8 x y ≤ 255 := by
  obtain ⟨a, rfl⟩ := Int.eq_ofNat_of_zero_le hx.1
  obtain ⟨b, rfl⟩ := Int.eq_ofNat_of_zero_le hy.1
  rw [bits_or8]
  have hl := (BitVec.ofNat 8 a ||| BitVec.ofNat 8 b).isLt
  refine ⟨?_, by omega, by omega⟩
  constructor
  · intro h
    have h1 : (BitVec.ofNat 8 a ||| BitVec.ofNat 8 b) = 0#8 := BitVec.eq_of_toNat_eq ((Int.ofNat_eq_zero.1 h).trans rfl)
    have h2 := BitVec.or_eq_zero_iff.1 h1
    have h3 := congrArg BitVec.toNat h2.1
    have h4 := congrArg BitVec.toNat h2.2
    simp at h3 h4
    omega
  · intro h
    have h1 : a = 0 := by omega
    have h2 : b = 0 := by omega
    subst h1 h2
    simp

theorem same_len (x y : Option Addr) (l m c d : Nat) (h : ¬ l = m) (w : World) :
    Calls Try.prog 64 #[.slice x l c, .slice y m d] w fun e w' => e = .returned (.bool false) ∧ w = w' := by
  go_enter Try.func64, Try.ntmps64
  go_wp2
  go_ret
  exact ⟨rfl, rfl⟩
theorem same_plain (b o cap b2 o2 cap2 : Nat) (xs ys : List Nat) (hx : Byt xs) (hy : Byt ys) (hl : ys.length = xs.length) (hm : xs.length ≤ 9223372036854775807) (w : World)
    (hc : ∀ i, i < xs.length → w.cell? ⟨b, o + i, none⟩ = some (.int .u8 (at_ xs i : Nat))) (hd : ∀ i, i < xs.length → w.cell? ⟨b2, o2 + i, none⟩ = some (.int .u8 (at_ ys i : Nat))) :
    Calls Try.prog 64 #[.slice (some ⟨b, o, none⟩) xs.length cap, .slice (some ⟨b2, o2, none⟩) xs.length cap2] w fun e w' => e = .returned (.bool (decide (xs = ys))) ∧ w = w' := by
  go_enter Try.func64, Try.ntmps64
  go_wp2
  go_loop [5, 15] (fun u i => ∃ (k : Nat) (z : Int), k ≤ xs.length ∧ i = .int .i64 k ∧ u = .int .u8 z ∧ 0 ≤ z ∧ z ≤ 255 ∧ (z = 0 ↔ xs.take k = ys.take k)) (fun _ i => xs.length - (intOf i).toNat)
  case atStart => exact ⟨0, 0, by omega, rfl, rfl, by omega, by omega, by simp⟩
  case round =>
    obtain ⟨k, z, hk, rfl, rfl, h0, h1, hz⟩ := hrel
    have HZ := Lib.hid hz
    clear hz
    by_cases hlt : k < xs.length
    · have c1 := hc k hlt
      have c2 := hd k hlt
      have g1 := hx.at k
      have g2 := hy.at k
      have T1 := Lib.hid (take_snoc xs k hlt)
      have T2 := Lib.hid (take_snoc ys k (by omega))
      have X := Lib.hid (xor8_zero (at_ xs k : Nat) (at_ ys k : Nat) ⟨by omega, by omega⟩ ⟨by omega, by omega⟩)
      have O := Lib.hid (or8_zero z (bits .xor .u8 (at_ xs k : Nat) (at_ ys k : Nat)) ⟨h0, h1⟩ X.out.2)
      clear hc hd
      go_wp2
      go_round
      case rel =>
        refine ⟨k + 1, _, by omega, by go_num, rfl, O.out.2.1, O.out.2.2, ?_⟩
        rw [O.out.1, X.out.1, HZ.out, T1.out, T2.out]
        constructor
        · rintro ⟨e1, e2⟩
          rw [e1, Int.natCast_inj.1 e2]
        · intro e
          have := List.append_inj e (by simp; omega)
          exact ⟨this.1, by
            have h2 := this.2
            simp only [List.cons.injEq, and_true] at h2
            omega⟩
      case measure => simp [intOf]; omega
    · obtain rfl : k = xs.length := by omega
      have e1 : xs.take xs.length = xs := List.take_length
      have e2 : ys.take xs.length = ys := by rw [← hl]; exact List.take_length
      have HE : Hid ((z == 0) = decide (xs = ys)) := by
        show (z == 0) = decide (xs = ys)
        have := HZ.out
        rw [e1, e2] at this
        rw [Bool.eq_iff_iff]
        simp [this]
      clear hc hd e1 e2
      go_wp2
      go_ret
      refine ⟨?_, rfl⟩
      rw [← HE.out]
      rfl
theorem same_zero (x y : Option Addr) (c d : Nat) (w : World) : Calls Try.prog 64 #[.slice x 0 c, .slice y 0 d] w fun e w' => e = .returned (.bool true) ∧ w = w' := by
  go_enter Try.func64, Try.ntmps64
  go_wp2
  go_loop [5, 15] (fun u i => u = .int .u8 0 ∧ i = .int .i64 0) (fun _ _ => 0)
  case atStart => exact ⟨rfl, rfl⟩
  case round =>
    obtain ⟨rfl, rfl⟩ := hrel
    go_wp2
    go_ret
    exact ⟨rfl, rfl⟩
theorem same (v u : Value) (xs ys : List Nat) (w : World) (h : Sees w v xs) (k : Sees w u ys) : Calls Try.prog 64 #[v, u] w fun e w' => e = .returned (.bool (decide (xs = ys))) ∧ w = w' := by
  by_cases hl : xs.length = ys.length
  · by_cases h0 : xs = []
    · subst h0
      obtain rfl := List.length_eq_zero_iff.1 hl.symm
      obtain ⟨x, c, rfl, _⟩ := h.form
      obtain ⟨y, d, rfl, _⟩ := k.form
      exact same_zero x y c d w
    · have h1 : ys ≠ [] := fun e => h0 (List.length_eq_zero_iff.1 (by rw [hl, e]; rfl))
      obtain ⟨hb, ⟨_, h2⟩ | ⟨_, _, _, h2, _⟩ | ⟨b, o, cap, rfl, _, _, hm, hc⟩⟩ := h
      · exact (h0 h2).elim
      · exact (h0 h2).elim
      obtain ⟨hb2, ⟨_, h2⟩ | ⟨_, _, _, h2, _⟩ | ⟨b2, o2, cap2, rfl, _, _, _, hd⟩⟩ := k
      · exact (h1 h2).elim
      · exact (h1 h2).elim
      rw [← hl] at hd ⊢
      unfold maxLen at hm
      exact same_plain b o cap b2 o2 cap2 xs ys hb hb2 hl.symm (by omega) w hc hd
  · obtain ⟨x, c, rfl, _⟩ := h.form
    obtain ⟨y, d, rfl, _⟩ := k.form
    rw [show decide (xs = ys) = false from decide_eq_false (fun e => hl (by rw [e]))]
    exact same_len x y _ _ c d hl w
/-- The words of a text, n and the front, turned back. -/
def unw (key b : List Nat) (n : Nat) : List Nat := bt (dec key) n (6 * n) b
theorem spl_all {l S : List Nat} (h : S.length = l.length) : spl l 0 S = S := by
  unfold spl
  simp [h]
theorem sl_to8 (q L cap : Nat) (hc : 8 ≤ cap) (W : World) : (Instr.slice 28 (.slice (some ⟨q, 0, none⟩) L cap) none (some (.int .i64 8)) none).run Try.prog W = .ok (.slice (some ⟨q, 0, none⟩) 8 cap) W := by
  rw [run_slice_h W 28 (some ⟨q, 0, none⟩) L cap (by kernel_rfl) .i64 8 (by omega) (by omega), size5']
  simp [Result.andThen, sliced, addr_add]
set_option maxRecDepth 100000 in
set_option maxHeartbeats 8000000 in
theorem unwrapNo (key : List Nat) (x : Option Addr) (L cap : Nat) (w : World) (hm : L ≤ 9223372036854775807) (h : isW ((L : Int) - 8) = false) :
    Calls Try.prog 37 #[.agg (ncells key), .slice x L cap] w fun e w' => e = .returned (.tuple #[.slice none 0 0, .int .i64 3]) ∧ Below w.heap.size w w' := by
  have IW := Lib.hid (isWordsC ((L : Int) - 8) ⟨by omega, by omega⟩ (w.alloc (.cells (ncells key) 23)))
  rw [h] at IW
  clear h
  obtain ⟨z, hz⟩ : ∃ z, z = (L : Int) - 8 := ⟨_, rfl⟩
  rw [← hz] at IW
  have hzi : IntKind.i64.wrap ((L : Int) - 8) = z := by rw [hz]; exact IntWalk.i64_in _ (by omega)
  clear hz
  go_enter Try.func37, Try.ntmps37
  go_wp2_with fail
  refine (IW.out).mono ?_
  rintro e w' ⟨rfl, rfl⟩
  go_wp2_with fail
  go_ret2
  exact ⟨rfl, (Below.refl _ _).alloc (Nat.le_refl _) _⟩
set_option maxRecDepth 100000 in
set_option maxHeartbeats 8000000 in
theorem unwrapYes (key b : List Nat) (hk : Bts 32 key) (n : Nat) (x : Option Addr) (L cap : Nat) (w : World) (hs : Sees w (.slice x L cap) b) (hL : L = b.length) (hn : L = 8 * (n + 1)) (h1 : 2 ≤ n) (h2 : n ≤ 16) :
    Calls Try.prog 37 #[.agg (ncells key), .slice x L cap] w fun e w' => Below w.heap.size w w' ∧ ((unw key b n).take 8 = fr8 ∧ (∃ q c, e = .returned (.tuple #[.slice q (L - 8 : Nat) c, .int .i64 0]) ∧ Sees w' (.slice q (L - 8 : Nat) c) ((unw key b n).drop 8)) ∨ (unw key b n).take 8 ≠ fr8 ∧ e = .returned (.tuple #[.slice none 0 0, .int .i64 20])) := by
  obtain ⟨U, hU⟩ : ∃ U, U = unw key b n := ⟨_, rfl⟩
  rw [← hU]
  have HU := Lib.hid hU
  clear hU
  obtain ⟨w1, hw1⟩ : ∃ w1, w1 = w.alloc (.cells (ncells key) 23) := ⟨_, rfl⟩
  have IW := Lib.hid (isWordsC ((L : Int) - 8) ⟨by omega, by omega⟩ w1)
  have hw : isW ((L : Int) - 8) = true := by unfold isW; simp; omega
  rw [hw] at IW
  obtain ⟨z, hz⟩ : ∃ z, z = (L : Int) - 8 := ⟨_, rfl⟩
  rw [← hz] at IW
  have hzi : IntKind.i64.wrap ((L : Int) - 8) = z := by rw [hz]; exact IntWalk.i64_in _ (by omega)
  have b1 : Below w.heap.size w w1 := by rw [hw1]; exact (Below.refl _ _).alloc (Nat.le_refl _) _
  have g1 : w1.heap[w.heap.size]? = some (.cells (ncells key) 23 (0, 0)) := by rw [hw1]; exact heap_alloc_new w _
  have mk := mkN L (by omega) w1
  obtain ⟨q, hq⟩ : ∃ q, q = w1.heap.size := ⟨_, rfl⟩
  obtain ⟨w2, hw2⟩ : ∃ w2, w2 = w1.alloc (.cells (ncells (zeros L)) 5) := ⟨_, rfl⟩
  rw [← hw2, ← hq] at mk
  have b2 : Below w1.heap.size w1 w2 := by rw [hw2]; exact (Below.refl _ _).alloc (Nat.le_refl _) _
  have s2 := (hs.below b1).below b2
  obtain ⟨bb, oo, rfl, hLc, hcl, hcm, hcc⟩ := s2.cells (fun e => by rw [e] at hL; simp at hL; omega)
  have hzl : (zeros L).length = L := zeros_len L
  have W0 : WR w2 q (zeros L) (ncells (zeros L)) := ⟨by rw [hw2, hq]; exact heap_alloc_new w1 _, by rw [nsize]; exact Nat.le_refl _, fun j hj => by
    rw [hzl] at hj
    exact ncell (zeros L) j (by omega)⟩
  obtain ⟨cs, hc, h3⟩ := copyW (ty := 3) (off := 0) (dLen := L) (dCap := L) (sLen := L) (sCap := cap) (b := bb) (o := oo) (S := b) (m := L) W0 hL.symm (by show L = min L L; omega) (fun j hj => hcc j (by omega)) (by omega)
  rw [spl_all (by omega)] at h3
  obtain ⟨w3, hw3⟩ : ∃ w3, w3 = w2.setRow q cs := ⟨_, rfl⟩
  rw [← hw3] at hc h3
  have b3 : Below w.heap.size w w3 := by
    rw [hw3]
    exact (b1.trans (b2.mono b1.size)).trans (below_row _ _ (by rw [hq]; exact b1.size))
  have hqs : w.heap.size ≠ q := by rw [hq]; exact Nat.ne_of_lt (blk_lt g1)
  have g3 : w3.heap[w.heap.size]? = some (.cells (ncells key) 23 (0, 0)) := by
    rw [hw3, setRow_other _ _ _ _ hqs]
    exact (b2.block _ (blk_lt g1)).trans g1
  have hq3 : w.heap.size ≤ q := by rw [hq]; exact b1.size
  have hbyt := hs.1
  have hlen : b.length = 8 * (n + 1) := by omega
  have MK := Lib.hid mk
  have CP := Lib.hid hc
  have WR3 := Lib.hid h3
  have G3 := Lib.hid g3
  have B3 := Lib.hid b3
  have NC := Lib.hid (newC key hk w3)
  have KL := Lib.hid hk.1
  have HK := Lib.hid hk
  have HLN := Lib.hid hlen
  have HBY := Lib.hid hbyt
  have HN := Lib.hid hn
  have HQ3 := Lib.hid hq3
  have HW1 := Lib.hid hw1
  have HLb := Lib.hid hL
  have N12 : Hid (2 ≤ n ∧ n ≤ 16) := ⟨h1, h2⟩
  have S1 := Lib.hid (sl_to8 q L L (by omega))
  have S2 := Lib.hid (sl_from0 q L L 8 (by omega) (Nat.le_refl _))
  have hL8 : (9 : Int) ≤ L := by omega
  have hne8 : ¬ L = 8 := by omega
  have hne9 : ¬ L ≤ 8 := by omega
  have hLm : (L : Int) ≤ 136 := by omega
  clear hLc hs hL hn hw hw1 b1 g1 hw2 b2 s2 W0 h3 b3 g3 hk hlen hbyt h1 h2 hq3 mk hc hcl hcm hcc hzl hqs hw3 hq hz
  go_enter Try.func37, Try.ntmps37
  go_wp2_with fail
  rw [← HW1.out]
  refine (IW.out).mono ?_
  rintro e w' ⟨rfl, rfl⟩
  have mk := MK.out
  have cp := CP.out
  go_wp2_with (refine wpList_load_row rfl 23 (.tmp 2) rfl w.heap.size rfl 23 (ncells key) (0, 0) _ G3.out Try.underlying23 rfl (i23 KL.out) ?_)
  clear mk cp
  refine (NC.out).mono ?_
  rintro e w4 ⟨gc, rfl, hge, hci, hb4⟩
  have TW : Hid (Calls Try.prog 63 #[.pointer (some ⟨gc, 0, none⟩), .slice (some ⟨q, 0, none⟩) L L] w4 fun e w' => e = .returned (.tuple #[]) ∧ (∃ cs', WR w' q U cs') ∧ Elsewhere q w4 w') := by
    show Calls _ _ _ _ _
    rw [HN.out, HU.out]
    exact turnBackW key b HK.out gc n q _ cs w4 hci (WR3.out.below hb4) HBY.out HLN.out (by have := N12.out; omega) N12.out.2 (Nat.le_refl _)
  have B4 := Lib.hid (B3.out.trans (hb4.mono B3.out.size))
  have OK : Hid (U.length = L ∧ Byt U) := by
    rw [HU.out]
    have := bt_ok (fun x hx => dec_bts HK.out hx) (show 0 < n by have := N12.out; omega) (6 * n) (by have := N12.out; omega) b HLN.out HBY.out
    exact ⟨by rw [HN.out]; exact this.1, this.2⟩
  clear hge hci hb4
  go_wp2_with fail
  refine (TW.out).mono ?_
  rintro e w5 ⟨rfl, ⟨cs5, hw5⟩, he5⟩
  have B5 : Hid (Below w.heap.size w w5) := he5.2.1 w.heap.size w HQ3.out B4.out.size B4.out
  have FC := Lib.hid (frontC w5.drew)
  obtain ⟨w6, hw6⟩ : ∃ w6, w6 = w5.drew.alloc (.cells (ncells fr8) 5) := ⟨_, rfl⟩
  rw [← hw6] at FC
  have b6 : Below w5.heap.size w5 w6 := by rw [hw6]; exact (Below.refl _ _).drew.alloc (Nat.le_refl _) _
  have B6 : Hid (Below w.heap.size w w6) := B5.out.trans (b6.mono B5.out.size)
  have W6 := hw5.below b6
  have LU := OK.out.1
  have SA : Sees w6 (.slice (some ⟨q, 0, none⟩) 8 L) (U.take 8) := by
    refine ⟨OK.out.2.take 8, .inr (.inr ⟨q, 0, L, by rw [List.length_take, LU]; congr 1; omega, fun e => ?_, by rw [List.length_take, LU]; omega, by unfold maxLen; omega, fun i hi => ?_⟩)⟩
    · have := congrArg List.length e
      rw [List.length_take, LU] at this
      simp at this
      omega
    · rw [List.length_take, LU] at hi
      rw [Nat.zero_add, W6.cell (by omega), at_take (by omega)]
  have SF : Sees w6 (.slice (some ⟨w5.heap.size, 0, none⟩) 8 8) fr8 := by
    rw [hw6]; exact (own_lit w5.drew w5.heap.size fr8 fr8_byt (by rw [fr8_len]; simp [maxLen]) (Nat.le_refl _)).sees
  have SD : Sees w6 (.slice (some ⟨q, 8, none⟩) (L - 8 : Nat) (L - 8 : Nat)) (U.drop 8) := by
    refine ⟨OK.out.2.drop 8, .inr (.inr ⟨q, 8, L - 8, by rw [List.length_drop, LU], fun e => ?_, by rw [List.length_drop, LU]; exact Nat.le_refl _, by unfold maxLen; omega, fun i hi => ?_⟩)⟩
    · have := congrArg List.length e
      rw [List.length_drop, LU] at this
      have := N12.out
      have := HN.out
      simp at *
      omega
    · rw [List.length_drop, LU] at hi
      rw [W6.cell (by omega), at_drop]
  have SC := Lib.hid (same _ _ _ _ w6 SA SF)
  have HSD := Lib.hid SD
  have s1 := S1.out
  have s2 := S2.out
  clear hw5 he5 hw6 b6 W6 LU SA SF SD
  by_cases d : U.take 8 = fr8
  · have D := Lib.hid d
    rw [show decide (U.take 8 = fr8) = true from decide_eq_true d] at SC
    clear d
    go_wp2_with fail
    go_region_held3 (fun W => Below w.heap.size w W) (first | exact B5.out.drew | exact B6.out | assumption) ((first | (go_at_call 58; refine (FC.out).mono ?_; rintro e w7 ⟨rfl, rfl⟩) | (go_at_call 64; refine (SC.out).mono ?_; rintro e w8 ⟨rfl, rfl⟩)))
    go_wp2_with fail
    go_ret2
    exact ⟨B6.out, .inl ⟨D.out, _, _, rfl, HSD.out⟩⟩
  · have D := Lib.hid d
    rw [show decide (U.take 8 = fr8) = false from decide_eq_false d] at SC
    clear d
    go_wp2_with fail
    go_region_held3 (fun W => Below w.heap.size w W) (first | exact B5.out.drew | exact B6.out | assumption) ((first | (go_at_call 58; refine (FC.out).mono ?_; rintro e w7 ⟨rfl, rfl⟩) | (go_at_call 64; refine (SC.out).mono ?_; rintro e w8 ⟨rfl, rfl⟩)))
    go_wp2_with fail
    go_ret2
    exact ⟨B6.out, .inr ⟨D.out, rfl⟩⟩
theorem wrp_fixed : (at_ (wrp fkey fblk 2) 0 = 100 ∧ at_ (wrp fkey fblk 2) 1 = 232 ∧ at_ (wrp fkey fblk 2) 2 = 195 ∧ at_ (wrp fkey fblk 2) 3 = 249) := by decide +kernel
theorem unw_fixed : (unw fkey (zeros 24) 2).take 8 ≠ fr8 := by decide +kernel
theorem fkey_wrap (x : Option Addr) (c : Nat) (W : World) (hs : Sees W (.slice x 16 c) fblk) : Calls Try.prog 35 #[.agg (ncells fkey), .slice x 16 c] W fun e w' => ∃ q c, e = .returned (.tuple #[.slice q 24 c, .int .i64 0]) ∧ Sees w' (.slice q 24 c) (wrp fkey fblk 2) ∧ Below W.heap.size W w' :=
  wrapYes fkey fblk fkey_bts 2 x 16 c W hs fblk_bts.1.symm rfl (by omega) (by omega)
theorem wrp_len : (wrp fkey fblk 2).length = 24 := (tn_ok (fun x hx => enc_bts fkey_bts hx) (by omega) (by rw [List.length_append, fr8_len, fblk_bts.1]) (fr8_byt.append fblk_bts.2) 12 (by omega)).1
theorem unw_wrp : unw fkey (wrp fkey fblk 2) 2 = fr8 ++ fblk := bt_tn (fun x hx => enc_bts fkey_bts hx) (fun x hx => dec_enc fkey_bts hx) (by omega) (by rw [List.length_append, fr8_len, fblk_bts.1]) (fr8_byt.append fblk_bts.2) 12 (by omega)
theorem fkey_unwrap (x : Option Addr) (c : Nat) (W : World) (hs : Sees W (.slice x 24 c) (wrp fkey fblk 2)) : Calls Try.prog 37 #[.agg (ncells fkey), .slice x 24 c] W fun e w' => ∃ q c, e = .returned (.tuple #[.slice q 16 c, .int .i64 0]) ∧ Sees w' (.slice q 16 c) fblk ∧ Below W.heap.size W w' := by
  refine (unwrapYes fkey _ fkey_bts 2 x 24 c W hs wrp_len.symm rfl (by omega) (by omega)).mono ?_
  rintro e w' ⟨hb, ⟨_, q, c, rfl, h⟩ | ⟨h, _⟩⟩
  · rw [unw_wrp] at h
    exact ⟨q, c, rfl, h, hb⟩
  · rw [unw_wrp] at h
    exact (h rfl).elim
theorem fkey_zeros (x : Option Addr) (c : Nat) (W : World) (hs : Sees W (.slice x 24 c) (zeros 24)) : Calls Try.prog 37 #[.agg (ncells fkey), .slice x 24 c] W fun e w' => e = .returned (.tuple #[.slice none 0 0, .int .i64 20]) ∧ Below W.heap.size W w' := by
  refine (unwrapYes fkey _ fkey_bts 2 x 24 c W hs rfl rfl (by omega) (by omega)).mono ?_
  rintro e w' ⟨hb, ⟨h, _⟩ | ⟨_, rfl⟩⟩
  · exact (unw_fixed h).elim
  · exact ⟨rfl, hb⟩
set_option maxRecDepth 100000 in
set_option maxHeartbeats 4000000 in
theorem alive7 (w : World) : Calls Try.prog 34 #[] w fun e w' => e = .returned (.bool true) ∧ Below w.heap.size w w' := by
  have zz := zero47
  have z3 := zero23
  obtain ⟨Z, hZ⟩ : ∃ Z, Z = ncells (zeros 16) := ⟨_, rfl⟩
  rw [← hZ] at zz
  obtain ⟨Y, hY⟩ : ∃ Z, Z = ncells (zeros 32) := ⟨_, rfl⟩
  rw [← hY] at z3
  have FZ : Hid (Z = ncells (fillr 16 (fun j => 17 * j) 0)) := by show _ = _; rw [fillr_zero, hZ]
  have FY : Hid (Y = ncells (fillr 32 id 0)) := by show _ = _; rw [fillr_zero, hY]
  have EZ : Hid (fillr 16 (fun j => 17 * j) 16 = fblk) := fillr_all _ _
  have EY : Hid (fillr 32 id 32 = fkey) := fillr_all _ _
  have KW := Lib.hid fkey_wrap
  have KU := Lib.hid fkey_unwrap
  have KZ := Lib.hid fkey_zeros
  have M24 : Hid (∀ W : World, (Instr.makeSlice 28 (.int .i64 24) (.int .i64 24)).run Try.prog W = .ok (.slice (some ⟨W.heap.size, 0, none⟩) 24 24) (W.alloc (.cells (ncells (zeros 24)) 5))) := fun W => mkN 24 (by omega) W
  have WF := Lib.hid wrp_fixed
  have WL := Lib.hid wrp_len
  have BY : Hid (Byt fblk) := fblk_bts.2
  have BB : Hid (fblk.length = 16) := fblk_bts.1
  have KB : Hid (fkey.length = 32) := fkey_bts.1
  obtain ⟨WW, hWW⟩ : ∃ WW, WW = wrp fkey fblk 2 := ⟨_, rfl⟩
  rw [← hWW] at KW KU WF WL
  clear hWW
  generalize fkey = K0 at *
  generalize fblk = B0 at *
  clear hZ hY
  go_enter Try.func34, Try.ntmps34
  go_wp2_with fail
  go_loopw [3] (fun vi wr => ∃ i : Nat, i ≤ 32 ∧ vi = .int .i64 i ∧ wr.heap[w.heap.size]? = some (.cells (ncells (fillr 32 id i)) 23 (0, 0)) ∧ wr.heap[w.heap.size + 1]? = some (.cells Z 37 (0, 0)) ∧ Below w.heap.size w wr) (fun vi _ => 32 - (intOf vi).toNat)
  case atStart =>
    refine ⟨0, by omega, rfl, ?_, heap_alloc2_new w _ _, ((Below.refl _ _).alloc (Nat.le_refl _) _).alloc (by simp) _⟩
    rw [← FY.out, Below.heap_alloc _ _ _ (by simp)]; exact heap_alloc_new w _
  case round =>
    obtain ⟨i, hi, rfl, hg0, hg1, hbel⟩ := hrel
    by_cases hlt : i < 32
    · have hi32 : (i : Int) < 32 := by omega
      have c1 := cell_at hg0 (fillr_len _ _ _) hlt
      have f1 := frozen_of_row wr w.heap.size i _ 23 hg0
      have e8 := u8nat i (by omega)
      have US := Lib.hid (fillr_set 32 id i)
      have G0 := Lib.hid hg0
      have G1 := Lib.hid hg1
      have HB := Lib.hid hbel
      clear hg0 hg1 hbel
      generalize at_ (fillr 32 id i) i = y at *
      go_wp2_with fail
      go_roundw
      case rel =>
        refine ⟨i + 1, by omega, by go_num, ?_, ?_, HB.out.setCell (by simp) _⟩
        · rw [heap_setCell_same _ _ _ _ _ _ G0.out, ← US.out]; rfl
        · rw [heap_setCell_other _ _ _ _ (by simp <;> omega)]; exact G1.out
      case measure => simp [intOf]; omega
    · obtain rfl : i = 32 := by omega
      rw [EY.out] at hg0
      obtain ⟨wo, rfl⟩ : ∃ wo : World, wo = wr := ⟨_, rfl⟩
      have G0 := Lib.hid hg0
      have G1 := Lib.hid hg1
      have HB := Lib.hid hbel
      clear hg0 hg1 hbel hi hlt
      go_wp2_with fail
      go_loopw [4] (fun vi wr => ∃ i : Nat, i ≤ 16 ∧ vi = .int .i64 i ∧ wr.heap[w.heap.size]? = some (.cells (ncells K0) 23 (0, 0)) ∧ wr.heap[w.heap.size + 1]? = some (.cells (ncells (fillr 16 (fun j => 17 * j) i)) 37 (0, 0)) ∧ Below w.heap.size w wr) (fun vi _ => 16 - (intOf vi).toNat)
      case atStart => exact ⟨0, by omega, rfl, G0.out, by rw [← FZ.out]; exact G1.out, HB.out⟩
      case round =>
        clear G0 G1 HB
        obtain ⟨i, hi, rfl, hg0, hg1, hbel⟩ := hrel
        by_cases hlt : i < 16
        · have hi16 : (i : Int) < 16 := by omega
          have c1 := cell_at hg1 (fillr_len _ _ _) hlt
          have f1 := frozen_of_row wr (w.heap.size + 1) i _ 37 hg1
          have e8 : IntKind.u8.wrap (17 * (i : Int)) = ((17 * i : Nat) : Int) := by rw [show (17 * (i : Int)) = ((17 * i : Nat) : Int) by omega]; exact u8nat (17 * i) (by omega)
          obtain ⟨m, hm⟩ : ∃ m, m = 17 * i := ⟨_, rfl⟩
          rw [← hm] at e8
          have US : Hid ((ncells (fillr 16 (fun j => 17 * j) i)).setIfInBounds i (.int .u8 (m : Nat)) = ncells (fillr 16 (fun j => 17 * j) (i + 1))) := by rw [hm]; exact fillr_set 16 (fun j => 17 * j) i
          have G0 := Lib.hid hg0
          have G1 := Lib.hid hg1
          have HB := Lib.hid hbel
          clear hg0 hg1 hbel hm
          generalize at_ (fillr 16 (fun j => 17 * j) i) i = y at *
          go_wp2_with fail
          go_roundw
          case rel =>
            refine ⟨i + 1, by omega, by go_num, ?_, ?_, HB.out.setCell (by simp <;> omega) _⟩
            · rw [heap_setCell_other _ _ _ _ (by simp)]; exact G0.out
            · rw [heap_setCell_same _ _ _ _ _ _ G1.out, ← US.out]
          case measure => simp [intOf]; omega
        · obtain rfl : i = 16 := by omega
          rw [EZ.out] at hg1
          have G0 := Lib.hid hg0
          have G1 := Lib.hid hg1
          have HB := Lib.hid hbel
          have LT0 := Lib.hid (blk_lt hg0)
          have LT1 := Lib.hid (blk_lt hg1)
          clear hg0 hg1 hbel hi hlt
          have SB : Hid (Sees wr (.slice (some ⟨w.heap.size + 1, 0, none⟩) 16 16) B0) := (sees_row wr _ B0 BY.out (by rw [BB.out]; decide) G1.out 16 BB.out.symm)
          have a16 := arr16_all
          go_wp2_with fail
          refine wp_region_held_drew (S := fun W => Below wr.heap.size wr W) (by kernel_rfl) (Below.refl _ _).drew (fun hS => ?_)
          refine' wpAnyH_take (i := 0) ?h1x0p ?hsx0p ?hfx0p ?hrx0p ?hQx0p (yieldsIf_load_at ?hwx0p 23 (.tmp 1) ?hopx0p w.heap.size 0 rfl (ncells K0) _ (fun W hW => range_row ((hW.block _ LT0.out).trans G0.out)) Try.underlying23 rfl ?hix0p) hS ?restx0p
          case h1x0p => (simp only [List.getElem?_toArray, List.getElem?_cons_zero]; rfl)
          case hopx0p => rfl
          case hsx0p => kernel_rfl
          case hfx0p => kernel_rfl
          case hrx0p => kernel_rfl
          case hQx0p => exact fun _ _ _ h => h
          case hwx0p => rfl
          case hix0p => exact (i23 KB.out)
          simp only [Act.put, List.setIfInBounds_toArray, List.set_cons_succ, List.set_cons_zero]
          refine' wpAnyH_take (i := 1) ?h1x1p ?hsx1p ?hfx1p ?hrx1p ?hQx1p (Or.inl ⟨?hwx1p, ?hyx1p⟩) hS ?restx1p
          case h1x1p => (simp only [List.getElem?_toArray, List.getElem?_cons_succ, List.getElem?_cons_zero]; rfl)
          case hsx1p => kernel_rfl
          case hfx1p => kernel_rfl
          case hrx1p => kernel_rfl
          case hQx1p => exact fun _ _ _ h => h
          case hwx1p => rfl
          case hyx1p =>
            intro W hW
            go_simp
            try with_reducible rfl
          simp only [Act.put, List.setIfInBounds_toArray, List.set_cons_succ, List.set_cons_zero]
          refine wpAnyH_ready (rs := [2]) (by kernel_rfl) (by simp) ?_
          refine' AllReadyH.cons ?hoc2p (fun K hK => ?stc2p) AllReadyH.nil
          case hoc2p => (simp only [List.getElem?_toArray, List.getElem?_cons_succ, List.getElem?_cons_zero]; rfl)
          go_simp
          refine (KW.out _ _ _ (SB.out.below hS)).mono ?_
          rintro e w1 ⟨q, c, rfl, hs, hb⟩
          go_wp2_with fail
          refine hK.out _ _ (hS.trans (hb.mono hS.size)) (fun hHeld => ?_)
          clear hK K
          try simp only [Act.put, List.setIfInBounds_toArray, List.set_cons_succ, List.set_cons_zero]
          have SW := Lib.hid hs
          clear hs
          clear hS hb
          have hS := hHeld
          clear hHeld
          refine' wpAnyH_take (i := 3) ?h1x3p ?hsx3p ?hfx3p ?hrx3p ?hQx3p (Or.inl ⟨?hwx3p, ?hyx3p⟩) hS ?restx3p
          case h1x3p => (simp only [List.getElem?_toArray, List.getElem?_cons_succ, List.getElem?_cons_zero]; rfl)
          case hsx3p => kernel_rfl
          case hfx3p => kernel_rfl
          case hrx3p => kernel_rfl
          case hQx3p => exact fun _ _ _ h => h
          case hwx3p => rfl
          case hyx3p =>
            intro W hW
            go_simp
            try with_reducible rfl
          simp only [Act.put, List.setIfInBounds_toArray, List.set_cons_succ, List.set_cons_zero]
          refine' wpAnyH_take (i := 4) ?h1x4p ?hsx4p ?hfx4p ?hrx4p ?hQx4p (Or.inl ⟨?hwx4p, ?hyx4p⟩) hS ?restx4p
          case h1x4p => (simp only [List.getElem?_toArray, List.getElem?_cons_succ, List.getElem?_cons_zero]; rfl)
          case hsx4p => kernel_rfl
          case hfx4p => kernel_rfl
          case hrx4p => kernel_rfl
          case hQx4p => exact fun _ _ _ h => h
          case hwx4p => rfl
          case hyx4p =>
            intro W hW
            go_simp
            try with_reducible rfl
          simp only [Act.put, List.setIfInBounds_toArray, List.set_cons_succ, List.set_cons_zero]
          refine' wpAnyH_take (i := 5) ?h1x5p ?hsx5p ?hfx5p ?hrx5p ?hQx5p (Or.inl ⟨?hwx5p, ?hyx5p⟩) hS ?restx5p
          case h1x5p => (simp only [List.getElem?_toArray, List.getElem?_cons_succ, List.getElem?_cons_zero]; rfl)
          case hsx5p => kernel_rfl
          case hfx5p => kernel_rfl
          case hrx5p => kernel_rfl
          case hQx5p => exact fun _ _ _ h => h
          case hwx5p => rfl
          case hyx5p =>
            intro W hW
            go_simp
            try with_reducible rfl
          simp only [Act.put, List.setIfInBounds_toArray, List.set_cons_succ, List.set_cons_zero]
          refine' wpAnyH_take (i := 6) ?h1x6p ?hsx6p ?hfx6p ?hrx6p ?hQx6p (Or.inl ⟨?hwx6p, ?hyx6p⟩) hS ?restx6p
          case h1x6p => (simp only [List.getElem?_toArray, List.getElem?_cons_succ, List.getElem?_cons_zero]; rfl)
          case hsx6p => kernel_rfl
          case hfx6p => kernel_rfl
          case hrx6p => kernel_rfl
          case hQx6p => exact fun _ _ _ h => h
          case hwx6p => rfl
          case hyx6p =>
            intro W hW
            go_simp
            try with_reducible rfl
          simp only [Act.put, List.setIfInBounds_toArray, List.set_cons_succ, List.set_cons_zero]
          refine' wpAnyH_take (i := 7) ?h1x7p ?hsx7p ?hfx7p ?hrx7p ?hQx7p (Or.inl ⟨?hwx7p, ?hyx7p⟩) hS ?restx7p
          case h1x7p => (simp only [List.getElem?_toArray, List.getElem?_cons_succ, List.getElem?_cons_zero]; rfl)
          case hsx7p => kernel_rfl
          case hfx7p => kernel_rfl
          case hrx7p => kernel_rfl
          case hQx7p => exact fun _ _ _ h => h
          case hwx7p => rfl
          case hyx7p =>
            intro W hW
            go_simp
            try with_reducible rfl
          simp only [Act.put, List.setIfInBounds_toArray, List.set_cons_succ, List.set_cons_zero]
          refine wpAnyH_done (by kernel_rfl) ?_ _
          have B1 := Lib.hid (HB.out.trans (hS.mono HB.out.size))
          have G01 := Lib.hid ((hS.block _ LT0.out).trans G0.out)
          have G11 := Lib.hid ((hS.block _ LT1.out).trans G1.out)
          clear hS SB G0 G1 HB LT0 LT1
          go_wp2_with (refine wpList_load_row rfl 23 (.tmp 1) rfl w.heap.size rfl 23 (ncells K0) (0, 0) _ G01.out Try.underlying23 rfl (i23 KB.out) ?_)
          refine (KU.out _ _ _ SW.out).mono ?_
          rintro e w2 ⟨q2, c2, rfl, hs2, hb⟩
          have SP := Lib.hid hs2
          have SW2 := Lib.hid (SW.out.below hb)
          have B2 := Lib.hid (B1.out.trans (hb.mono B1.out.size))
          have G02 := Lib.hid ((hb.block _ (blk_lt G01.out)).trans G01.out)
          have G12 := Lib.hid ((hb.block _ (blk_lt G11.out)).trans G11.out)
          clear hs2 hb G01 G11 B1 SW
          go_wp2_with fail
          refine wp_region_held_drew (S := fun W => Below w2.heap.size w2 W) (by kernel_rfl) (Below.refl _ _).drew (fun hS => ?_)
          refine' wpAnyH_take (i := 0) ?h1x0r ?hsx0r ?hfx0r ?hrx0r ?hQx0r (yieldsIf_load_at ?hwx0r 23 (.tmp 1) ?hopx0r w.heap.size 0 rfl (ncells K0) _ (fun W hW => range_row ((hW.block _ (blk_lt G02.out)).trans G02.out)) Try.underlying23 rfl ?hix0r) hS ?restx0r
          case h1x0r => (simp only [List.getElem?_toArray, List.getElem?_cons_zero]; rfl)
          case hopx0r => rfl
          case hsx0r => kernel_rfl
          case hfx0r => kernel_rfl
          case hrx0r => kernel_rfl
          case hQx0r => exact fun _ _ _ h => h
          case hwx0r => rfl
          case hix0r => exact (i23 KB.out)
          simp only [Act.put, List.setIfInBounds_toArray, List.set_cons_succ, List.set_cons_zero]
          refine wpAnyH_ready (rs := [1]) (by kernel_rfl) (by simp) ?_
          refine' AllReadyH.cons ?hoc1r (fun K hK => ?stc1r) AllReadyH.nil
          case hoc1r => (simp only [List.getElem?_toArray, List.getElem?_cons_succ, List.getElem?_cons_zero]; rfl)
          have mk := M24.out
          go_simp
          refine hK.out _ _ (hS.alloc hS.size _) (fun hHeld => ?_)
          clear hK K
          try simp only [Act.put, List.setIfInBounds_toArray, List.set_cons_succ, List.set_cons_zero]
          have hz := heap_alloc_new w2.drew (.cells (ncells (zeros 24)) 5)
          clear hS mk
          have hS := hHeld
          clear hHeld
          refine wpAnyH_ready (rs := [2]) (by kernel_rfl) (by simp) ?_
          refine' AllReadyH.cons ?hoc2r (fun K hK => ?stc2r) AllReadyH.nil
          case hoc2r => (simp only [List.getElem?_toArray, List.getElem?_cons_succ, List.getElem?_cons_zero]; rfl)
          go_simp
          refine (KZ.out _ _ _ (sees_row _ _ (zeros 24) (zeros_byt 24) (by decide) hz 24 rfl)).mono ?_
          rintro e w3 ⟨rfl, hb⟩
          go_wp2_with fail
          refine hK.out _ _ (hS.trans (hb.mono hS.size)) (fun hHeld => ?_)
          clear hK K
          try simp only [Act.put, List.setIfInBounds_toArray, List.set_cons_succ, List.set_cons_zero]
          clear hz
          clear hS hb
          have hS := hHeld
          clear hHeld
          refine' wpAnyH_take (i := 3) ?h1x3r ?hsx3r ?hfx3r ?hrx3r ?hQx3r (Or.inl ⟨?hwx3r, ?hyx3r⟩) hS ?restx3r
          case h1x3r => (simp only [List.getElem?_toArray, List.getElem?_cons_succ, List.getElem?_cons_zero]; rfl)
          case hsx3r => kernel_rfl
          case hfx3r => kernel_rfl
          case hrx3r => kernel_rfl
          case hQx3r => exact fun _ _ _ h => h
          case hwx3r => rfl
          case hyx3r =>
            intro W hW
            go_simp
            try with_reducible rfl
          simp only [Act.put, List.setIfInBounds_toArray, List.set_cons_succ, List.set_cons_zero]
          refine' wpAnyH_take (i := 4) ?h1x4r ?hsx4r ?hfx4r ?hrx4r ?hQx4r (Or.inl ⟨?hwx4r, ?hyx4r⟩) hS ?restx4r
          case h1x4r => (simp only [List.getElem?_toArray, List.getElem?_cons_succ, List.getElem?_cons_zero]; rfl)
          case hsx4r => kernel_rfl
          case hfx4r => kernel_rfl
          case hrx4r => kernel_rfl
          case hQx4r => exact fun _ _ _ h => h
          case hwx4r => rfl
          case hyx4r =>
            intro W hW
            go_simp
            try with_reducible rfl
          simp only [Act.put, List.setIfInBounds_toArray, List.set_cons_succ, List.set_cons_zero]
          refine' wpAnyH_take (i := 5) ?h1x5r ?hsx5r ?hfx5r ?hrx5r ?hQx5r (Or.inl ⟨?hwx5r, ?hyx5r⟩) hS ?restx5r
          case h1x5r => (simp only [List.getElem?_toArray, List.getElem?_cons_succ, List.getElem?_cons_zero]; rfl)
          case hsx5r => kernel_rfl
          case hfx5r => kernel_rfl
          case hrx5r => kernel_rfl
          case hQx5r => exact fun _ _ _ h => h
          case hwx5r => rfl
          case hyx5r =>
            intro W hW
            go_simp
            try with_reducible rfl
          simp only [Act.put, List.setIfInBounds_toArray, List.set_cons_succ, List.set_cons_zero]
          refine' wpAnyH_take (i := 6) ?h1x6r ?hsx6r ?hfx6r ?hrx6r ?hQx6r (Or.inl ⟨?hwx6r, ?hyx6r⟩) hS ?restx6r
          case h1x6r => (simp only [List.getElem?_toArray, List.getElem?_cons_succ, List.getElem?_cons_zero]; rfl)
          case hsx6r => kernel_rfl
          case hfx6r => kernel_rfl
          case hrx6r => kernel_rfl
          case hQx6r => exact fun _ _ _ h => h
          case hwx6r => rfl
          case hyx6r =>
            intro W hW
            go_simp
            try with_reducible rfl
          simp only [Act.put, List.setIfInBounds_toArray, List.set_cons_succ, List.set_cons_zero]
          refine' wpAnyH_take (i := 7) ?h1x7r ?hsx7r ?hfx7r ?hrx7r ?hQx7r (Or.inl ⟨?hwx7r, ?hyx7r⟩) hS ?restx7r
          case h1x7r => (simp only [List.getElem?_toArray, List.getElem?_cons_succ, List.getElem?_cons_zero]; rfl)
          case hsx7r => kernel_rfl
          case hfx7r => kernel_rfl
          case hrx7r => kernel_rfl
          case hQx7r => exact fun _ _ _ h => h
          case hwx7r => rfl
          case hyx7r =>
            intro W hW
            go_simp
            try with_reducible rfl
          simp only [Act.put, List.setIfInBounds_toArray, List.set_cons_succ, List.set_cons_zero]
          refine wpAnyH_done (by kernel_rfl) ?_ _
          have SP3 := Lib.hid (SP.out.below hS)
          have SW3 := Lib.hid (SW2.out.below hS)
          have B3 := Lib.hid (B2.out.trans (hS.mono B2.out.size))
          have SB3 : Hid (Sees w3 (.slice (some ⟨w.heap.size + 1, 0, none⟩) 16 16) B0) := (sees_row w3 _ B0 BY.out (by rw [BB.out]; decide) ((hS.block _ (blk_lt G12.out)).trans G12.out) 16 BB.out.symm)
          obtain ⟨qb, qo, rfl, hx1, hx2, hx3, hcc⟩ := SW3.out.cells (fun e => by have := WL.out; rw [e] at this; simp at this)
          have d0 := hcc 0 (by rw [WL.out]; omega)
          have d1 := hcc 1 (by rw [WL.out]; omega)
          have d2 := hcc 2 (by rw [WL.out]; omega)
          have d3 := hcc 3 (by rw [WL.out]; omega)
          rw [WF.out.1] at d0
          rw [WF.out.2.1] at d1
          rw [WF.out.2.2.1] at d2
          rw [WF.out.2.2.2] at d3
          have e1 := SP3.out.str
          have e2 := SB3.out.str
          have D0 : Hid (w3.cell? ⟨qb, qo + 0, none⟩ = some (.int .u8 100)) := d0
          have D1 : Hid (w3.cell? ⟨qb, qo + 1, none⟩ = some (.int .u8 232)) := d1
          have D2 : Hid (w3.cell? ⟨qb, qo + 2, none⟩ = some (.int .u8 195)) := d2
          have D3 : Hid (w3.cell? ⟨qb, qo + 3, none⟩ = some (.int .u8 249)) := d3
          have E1 := Lib.hid e1
          have E2 := Lib.hid e2
          clear hx1 hx2 hx3 hcc SP SW2 G02 G12 B2 hS d0 d1 d2 d3 e1 e2
          go_wp2_with fail
          have L3 : Hid (qb < w3.heap.size) := World.block_lt_of_cell? w3 _ D0.out
          have SQ : Hid (((strN B0).toList == (strN B0).toList) = true) := by show _ = _; simp
          refine wp_region_held_drew (S := fun W => Below w3.heap.size w3 W) (by kernel_rfl) (Below.refl _ _).drew (fun hS => ?_)
          refine' wpAnyH_take (i := 0) ?h1x0s ?hsx0s ?hfx0s ?hrx0s ?hQx0s (Or.inl ⟨?hwx0s, ?hyx0s⟩) hS ?restx0s
          case h1x0s => (simp only [List.getElem?_toArray, List.getElem?_cons_zero]; rfl)
          case hsx0s => kernel_rfl
          case hfx0s => kernel_rfl
          case hrx0s => kernel_rfl
          case hQx0s => exact fun _ _ _ h => h
          case hwx0s => rfl
          case hyx0s =>
            intro W hW
            go_simp
            try with_reducible rfl
          simp only [Act.put, List.setIfInBounds_toArray, List.set_cons_succ, List.set_cons_zero]
          refine' wpAnyH_take (i := 1) ?h1x1s ?hsx1s ?hfx1s ?hrx1s ?hQx1s (Or.inl ⟨?hwx1s, ?hyx1s⟩) hS ?restx1s
          case h1x1s => (simp only [List.getElem?_toArray, List.getElem?_cons_succ, List.getElem?_cons_zero]; rfl)
          case hsx1s => kernel_rfl
          case hfx1s => kernel_rfl
          case hrx1s => kernel_rfl
          case hQx1s => exact fun _ _ _ h => h
          case hwx1s => rfl
          case hyx1s =>
            intro W hW
            go_simp
            try with_reducible rfl
          simp only [Act.put, List.setIfInBounds_toArray, List.set_cons_succ, List.set_cons_zero]
          refine' wpAnyH_take (i := 2) ?h1x2s ?hsx2s ?hfx2s ?hrx2s ?hQx2s (Or.inl ⟨?hwx2s, ?hyx2s⟩) hS ?restx2s
          case h1x2s => (simp only [List.getElem?_toArray, List.getElem?_cons_succ, List.getElem?_cons_zero]; rfl)
          case hsx2s => kernel_rfl
          case hfx2s => kernel_rfl
          case hrx2s => kernel_rfl
          case hQx2s => exact fun _ _ _ h => h
          case hwx2s => rfl
          case hyx2s =>
            intro W hW
            go_simp
            try with_reducible rfl
          simp only [Act.put, List.setIfInBounds_toArray, List.set_cons_succ, List.set_cons_zero]
          refine' wpAnyH_take (i := 3) ?h1x3s ?hsx3s ?hfx3s ?hrx3s ?hQx3s (Or.inl ⟨?hwx3s, ?hyx3s⟩) hS ?restx3s
          case h1x3s => (simp only [List.getElem?_toArray, List.getElem?_cons_succ, List.getElem?_cons_zero]; rfl)
          case hsx3s => kernel_rfl
          case hfx3s => kernel_rfl
          case hrx3s => kernel_rfl
          case hQx3s => exact fun _ _ _ h => h
          case hwx3s => rfl
          case hyx3s =>
            intro W hW
            go_simp
            try with_reducible rfl
          simp only [Act.put, List.setIfInBounds_toArray, List.set_cons_succ, List.set_cons_zero]
          refine' wpAnyH_take (i := 4) ?h1x4s ?hsx4s ?hfx4s ?hrx4s ?hQx4s (Or.inl ⟨?hwx4s, ?hyx4s⟩) hS ?restx4s
          case h1x4s => (simp only [List.getElem?_toArray, List.getElem?_cons_succ, List.getElem?_cons_zero]; rfl)
          case hsx4s => kernel_rfl
          case hfx4s => kernel_rfl
          case hrx4s => kernel_rfl
          case hQx4s => exact fun _ _ _ h => h
          case hwx4s => rfl
          case hyx4s =>
            intro W hW
            go_simp
            try with_reducible rfl
          simp only [Act.put, List.setIfInBounds_toArray, List.set_cons_succ, List.set_cons_zero]
          refine' wpAnyH_take (i := 5) ?h1x5s ?hsx5s ?hfx5s ?hrx5s ?hQx5s (Or.inl ⟨?hwx5s, ?hyx5s⟩) hS ?restx5s
          case h1x5s => (simp only [List.getElem?_toArray, List.getElem?_cons_succ, List.getElem?_cons_zero]; rfl)
          case hsx5s => kernel_rfl
          case hfx5s => kernel_rfl
          case hrx5s => kernel_rfl
          case hQx5s => exact fun _ _ _ h => h
          case hwx5s => rfl
          case hyx5s =>
            intro W hW
            go_simp
            try with_reducible rfl
          simp only [Act.put, List.setIfInBounds_toArray, List.set_cons_succ, List.set_cons_zero]
          refine' wpAnyH_take (i := 6) ?h1x6s ?hsx6s ?hfx6s ?hrx6s ?hQx6s (Or.inl ⟨?hwx6s, ?hyx6s⟩) hS ?restx6s
          case h1x6s => (simp only [List.getElem?_toArray, List.getElem?_cons_succ, List.getElem?_cons_zero]; rfl)
          case hsx6s => kernel_rfl
          case hfx6s => kernel_rfl
          case hrx6s => kernel_rfl
          case hQx6s => exact fun _ _ _ h => h
          case hwx6s => rfl
          case hyx6s =>
            intro W hW
            go_simp
            try with_reducible rfl
          simp only [Act.put, List.setIfInBounds_toArray, List.set_cons_succ, List.set_cons_zero]
          refine' wpAnyH_take (i := 7) ?h1x7s ?hsx7s ?hfx7s ?hrx7s ?hQx7s (Or.inl ⟨?hwx7s, ?hyx7s⟩) hS ?restx7s
          case h1x7s => (simp only [List.getElem?_toArray, List.getElem?_cons_succ, List.getElem?_cons_zero]; rfl)
          case hsx7s => kernel_rfl
          case hfx7s => kernel_rfl
          case hrx7s => kernel_rfl
          case hQx7s => exact fun _ _ _ h => h
          case hwx7s => rfl
          case hyx7s =>
            intro W hW
            go_simp
            try with_reducible rfl
          simp only [Act.put, List.setIfInBounds_toArray, List.set_cons_succ, List.set_cons_zero]
          refine' wpAnyH_take (i := 8) ?h1x8s ?hsx8s ?hfx8s ?hrx8s ?hQx8s (Or.inl ⟨?hwx8s, ?hyx8s⟩) hS ?restx8s
          case h1x8s => (simp only [List.getElem?_toArray, List.getElem?_cons_succ, List.getElem?_cons_zero]; rfl)
          case hsx8s => kernel_rfl
          case hfx8s => kernel_rfl
          case hrx8s => kernel_rfl
          case hQx8s => exact fun _ _ _ h => h
          case hwx8s => rfl
          case hyx8s =>
            intro W hW
            go_simp
            try with_reducible rfl
          simp only [Act.put, List.setIfInBounds_toArray, List.set_cons_succ, List.set_cons_zero]
          refine' wpAnyH_take (i := 9) ?h1x9s ?hsx9s ?hfx9s ?hrx9s ?hQx9s (Or.inl ⟨?hwx9s, ?hyx9s⟩) hS ?restx9s
          case h1x9s => (simp only [List.getElem?_toArray, List.getElem?_cons_succ, List.getElem?_cons_zero]; rfl)
          case hsx9s => kernel_rfl
          case hfx9s => kernel_rfl
          case hrx9s => kernel_rfl
          case hQx9s => exact fun _ _ _ h => h
          case hwx9s => rfl
          case hyx9s =>
            intro W hW
            go_simp
            try with_reducible rfl
          simp only [Act.put, List.setIfInBounds_toArray, List.set_cons_succ, List.set_cons_zero]
          refine' wpAnyH_take (i := 10) ?h1x10s ?hsx10s ?hfx10s ?hrx10s ?hQx10s (Or.inl ⟨?hwx10s, ?hyx10s⟩) hS ?restx10s
          case h1x10s => (simp only [List.getElem?_toArray, List.getElem?_cons_succ, List.getElem?_cons_zero]; rfl)
          case hsx10s => kernel_rfl
          case hfx10s => kernel_rfl
          case hrx10s => kernel_rfl
          case hQx10s => exact fun _ _ _ h => h
          case hwx10s => rfl
          case hyx10s =>
            intro W hW
            have dd := (hW.cell (p := ⟨qb, qo + 0, none⟩) L3.out).trans D0.out
            rw [Nat.add_zero] at dd
            go_simp
            try with_reducible rfl
          simp only [Act.put, List.setIfInBounds_toArray, List.set_cons_succ, List.set_cons_zero]
          refine' wpAnyH_take (i := 11) ?h1x11s ?hsx11s ?hfx11s ?hrx11s ?hQx11s (Or.inl ⟨?hwx11s, ?hyx11s⟩) hS ?restx11s
          case h1x11s => (simp only [List.getElem?_toArray, List.getElem?_cons_succ, List.getElem?_cons_zero]; rfl)
          case hsx11s => kernel_rfl
          case hfx11s => kernel_rfl
          case hrx11s => kernel_rfl
          case hQx11s => exact fun _ _ _ h => h
          case hwx11s => rfl
          case hyx11s =>
            intro W hW
            go_simp
            try with_reducible rfl
          simp only [Act.put, List.setIfInBounds_toArray, List.set_cons_succ, List.set_cons_zero]
          refine' wpAnyH_take (i := 12) ?h1x12s ?hsx12s ?hfx12s ?hrx12s ?hQx12s (Or.inl ⟨?hwx12s, ?hyx12s⟩) hS ?restx12s
          case h1x12s => (simp only [List.getElem?_toArray, List.getElem?_cons_succ, List.getElem?_cons_zero]; rfl)
          case hsx12s => kernel_rfl
          case hfx12s => kernel_rfl
          case hrx12s => kernel_rfl
          case hQx12s => exact fun _ _ _ h => h
          case hwx12s => rfl
          case hyx12s =>
            intro W hW
            go_simp
            try with_reducible rfl
          simp only [Act.put, List.setIfInBounds_toArray, List.set_cons_succ, List.set_cons_zero]
          refine' wpAnyH_take (i := 13) ?h1x13s ?hsx13s ?hfx13s ?hrx13s ?hQx13s (Or.inl ⟨?hwx13s, ?hyx13s⟩) hS ?restx13s
          case h1x13s => (simp only [List.getElem?_toArray, List.getElem?_cons_succ, List.getElem?_cons_zero]; rfl)
          case hsx13s => kernel_rfl
          case hfx13s => kernel_rfl
          case hrx13s => kernel_rfl
          case hQx13s => exact fun _ _ _ h => h
          case hwx13s => rfl
          case hyx13s =>
            intro W hW
            go_simp
            try with_reducible rfl
          simp only [Act.put, List.setIfInBounds_toArray, List.set_cons_succ, List.set_cons_zero]
          refine' wpAnyH_take (i := 14) ?h1x14s ?hsx14s ?hfx14s ?hrx14s ?hQx14s (Or.inl ⟨?hwx14s, ?hyx14s⟩) hS ?restx14s
          case h1x14s => (simp only [List.getElem?_toArray, List.getElem?_cons_succ, List.getElem?_cons_zero]; rfl)
          case hsx14s => kernel_rfl
          case hfx14s => kernel_rfl
          case hrx14s => kernel_rfl
          case hQx14s => exact fun _ _ _ h => h
          case hwx14s => rfl
          case hyx14s =>
            intro W hW
            go_simp
            try with_reducible rfl
          simp only [Act.put, List.setIfInBounds_toArray, List.set_cons_succ, List.set_cons_zero]
          refine' wpAnyH_take (i := 15) ?h1x15s ?hsx15s ?hfx15s ?hrx15s ?hQx15s (Or.inl ⟨?hwx15s, ?hyx15s⟩) hS ?restx15s
          case h1x15s => (simp only [List.getElem?_toArray, List.getElem?_cons_succ, List.getElem?_cons_zero]; rfl)
          case hsx15s => kernel_rfl
          case hfx15s => kernel_rfl
          case hrx15s => kernel_rfl
          case hQx15s => exact fun _ _ _ h => h
          case hwx15s => rfl
          case hyx15s =>
            intro W hW
            go_simp
            try with_reducible rfl
          simp only [Act.put, List.setIfInBounds_toArray, List.set_cons_succ, List.set_cons_zero]
          refine' wpAnyH_take (i := 16) ?h1x16s ?hsx16s ?hfx16s ?hrx16s ?hQx16s (Or.inl ⟨?hwx16s, ?hyx16s⟩) hS ?restx16s
          case h1x16s => (simp only [List.getElem?_toArray, List.getElem?_cons_succ, List.getElem?_cons_zero]; rfl)
          case hsx16s => kernel_rfl
          case hfx16s => kernel_rfl
          case hrx16s => kernel_rfl
          case hQx16s => exact fun _ _ _ h => h
          case hwx16s => rfl
          case hyx16s =>
            intro W hW
            have dd := (hW.cell (p := ⟨qb, qo + 1, none⟩) L3.out).trans D1.out
            go_simp
            try with_reducible rfl
          simp only [Act.put, List.setIfInBounds_toArray, List.set_cons_succ, List.set_cons_zero]
          refine' wpAnyH_take (i := 17) ?h1x17s ?hsx17s ?hfx17s ?hrx17s ?hQx17s (Or.inl ⟨?hwx17s, ?hyx17s⟩) hS ?restx17s
          case h1x17s => (simp only [List.getElem?_toArray, List.getElem?_cons_succ, List.getElem?_cons_zero]; rfl)
          case hsx17s => kernel_rfl
          case hfx17s => kernel_rfl
          case hrx17s => kernel_rfl
          case hQx17s => exact fun _ _ _ h => h
          case hwx17s => rfl
          case hyx17s =>
            intro W hW
            go_simp
            try with_reducible rfl
          simp only [Act.put, List.setIfInBounds_toArray, List.set_cons_succ, List.set_cons_zero]
          refine' wpAnyH_take (i := 18) ?h1x18s ?hsx18s ?hfx18s ?hrx18s ?hQx18s (Or.inl ⟨?hwx18s, ?hyx18s⟩) hS ?restx18s
          case h1x18s => (simp only [List.getElem?_toArray, List.getElem?_cons_succ, List.getElem?_cons_zero]; rfl)
          case hsx18s => kernel_rfl
          case hfx18s => kernel_rfl
          case hrx18s => kernel_rfl
          case hQx18s => exact fun _ _ _ h => h
          case hwx18s => rfl
          case hyx18s =>
            intro W hW
            go_simp
            try with_reducible rfl
          simp only [Act.put, List.setIfInBounds_toArray, List.set_cons_succ, List.set_cons_zero]
          refine' wpAnyH_take (i := 19) ?h1x19s ?hsx19s ?hfx19s ?hrx19s ?hQx19s (Or.inl ⟨?hwx19s, ?hyx19s⟩) hS ?restx19s
          case h1x19s => (simp only [List.getElem?_toArray, List.getElem?_cons_succ, List.getElem?_cons_zero]; rfl)
          case hsx19s => kernel_rfl
          case hfx19s => kernel_rfl
          case hrx19s => kernel_rfl
          case hQx19s => exact fun _ _ _ h => h
          case hwx19s => rfl
          case hyx19s =>
            intro W hW
            go_simp
            try with_reducible rfl
          simp only [Act.put, List.setIfInBounds_toArray, List.set_cons_succ, List.set_cons_zero]
          refine' wpAnyH_take (i := 20) ?h1x20s ?hsx20s ?hfx20s ?hrx20s ?hQx20s (Or.inl ⟨?hwx20s, ?hyx20s⟩) hS ?restx20s
          case h1x20s => (simp only [List.getElem?_toArray, List.getElem?_cons_succ, List.getElem?_cons_zero]; rfl)
          case hsx20s => kernel_rfl
          case hfx20s => kernel_rfl
          case hrx20s => kernel_rfl
          case hQx20s => exact fun _ _ _ h => h
          case hwx20s => rfl
          case hyx20s =>
            intro W hW
            go_simp
            try with_reducible rfl
          simp only [Act.put, List.setIfInBounds_toArray, List.set_cons_succ, List.set_cons_zero]
          refine' wpAnyH_take (i := 21) ?h1x21s ?hsx21s ?hfx21s ?hrx21s ?hQx21s (Or.inl ⟨?hwx21s, ?hyx21s⟩) hS ?restx21s
          case h1x21s => (simp only [List.getElem?_toArray, List.getElem?_cons_succ, List.getElem?_cons_zero]; rfl)
          case hsx21s => kernel_rfl
          case hfx21s => kernel_rfl
          case hrx21s => kernel_rfl
          case hQx21s => exact fun _ _ _ h => h
          case hwx21s => rfl
          case hyx21s =>
            intro W hW
            go_simp
            try with_reducible rfl
          simp only [Act.put, List.setIfInBounds_toArray, List.set_cons_succ, List.set_cons_zero]
          refine' wpAnyH_take (i := 22) ?h1x22s ?hsx22s ?hfx22s ?hrx22s ?hQx22s (Or.inl ⟨?hwx22s, ?hyx22s⟩) hS ?restx22s
          case h1x22s => (simp only [List.getElem?_toArray, List.getElem?_cons_succ, List.getElem?_cons_zero]; rfl)
          case hsx22s => kernel_rfl
          case hfx22s => kernel_rfl
          case hrx22s => kernel_rfl
          case hQx22s => exact fun _ _ _ h => h
          case hwx22s => rfl
          case hyx22s =>
            intro W hW
            have dd := (hW.cell (p := ⟨qb, qo + 2, none⟩) L3.out).trans D2.out
            go_simp
            try with_reducible rfl
          simp only [Act.put, List.setIfInBounds_toArray, List.set_cons_succ, List.set_cons_zero]
          refine' wpAnyH_take (i := 23) ?h1x23s ?hsx23s ?hfx23s ?hrx23s ?hQx23s (Or.inl ⟨?hwx23s, ?hyx23s⟩) hS ?restx23s
          case h1x23s => (simp only [List.getElem?_toArray, List.getElem?_cons_succ, List.getElem?_cons_zero]; rfl)
          case hsx23s => kernel_rfl
          case hfx23s => kernel_rfl
          case hrx23s => kernel_rfl
          case hQx23s => exact fun _ _ _ h => h
          case hwx23s => rfl
          case hyx23s =>
            intro W hW
            go_simp
            try with_reducible rfl
          simp only [Act.put, List.setIfInBounds_toArray, List.set_cons_succ, List.set_cons_zero]
          refine' wpAnyH_take (i := 24) ?h1x24s ?hsx24s ?hfx24s ?hrx24s ?hQx24s (Or.inl ⟨?hwx24s, ?hyx24s⟩) hS ?restx24s
          case h1x24s => (simp only [List.getElem?_toArray, List.getElem?_cons_succ, List.getElem?_cons_zero]; rfl)
          case hsx24s => kernel_rfl
          case hfx24s => kernel_rfl
          case hrx24s => kernel_rfl
          case hQx24s => exact fun _ _ _ h => h
          case hwx24s => rfl
          case hyx24s =>
            intro W hW
            go_simp
            try with_reducible rfl
          simp only [Act.put, List.setIfInBounds_toArray, List.set_cons_succ, List.set_cons_zero]
          refine' wpAnyH_take (i := 25) ?h1x25s ?hsx25s ?hfx25s ?hrx25s ?hQx25s (Or.inl ⟨?hwx25s, ?hyx25s⟩) hS ?restx25s
          case h1x25s => (simp only [List.getElem?_toArray, List.getElem?_cons_succ, List.getElem?_cons_zero]; rfl)
          case hsx25s => kernel_rfl
          case hfx25s => kernel_rfl
          case hrx25s => kernel_rfl
          case hQx25s => exact fun _ _ _ h => h
          case hwx25s => rfl
          case hyx25s =>
            intro W hW
            go_simp
            try with_reducible rfl
          simp only [Act.put, List.setIfInBounds_toArray, List.set_cons_succ, List.set_cons_zero]
          refine' wpAnyH_take (i := 26) ?h1x26s ?hsx26s ?hfx26s ?hrx26s ?hQx26s (Or.inl ⟨?hwx26s, ?hyx26s⟩) hS ?restx26s
          case h1x26s => (simp only [List.getElem?_toArray, List.getElem?_cons_succ, List.getElem?_cons_zero]; rfl)
          case hsx26s => kernel_rfl
          case hfx26s => kernel_rfl
          case hrx26s => kernel_rfl
          case hQx26s => exact fun _ _ _ h => h
          case hwx26s => rfl
          case hyx26s =>
            intro W hW
            go_simp
            try with_reducible rfl
          simp only [Act.put, List.setIfInBounds_toArray, List.set_cons_succ, List.set_cons_zero]
          refine' wpAnyH_take (i := 27) ?h1x27s ?hsx27s ?hfx27s ?hrx27s ?hQx27s (Or.inl ⟨?hwx27s, ?hyx27s⟩) hS ?restx27s
          case h1x27s => (simp only [List.getElem?_toArray, List.getElem?_cons_succ, List.getElem?_cons_zero]; rfl)
          case hsx27s => kernel_rfl
          case hfx27s => kernel_rfl
          case hrx27s => kernel_rfl
          case hQx27s => exact fun _ _ _ h => h
          case hwx27s => rfl
          case hyx27s =>
            intro W hW
            go_simp
            try with_reducible rfl
          simp only [Act.put, List.setIfInBounds_toArray, List.set_cons_succ, List.set_cons_zero]
          refine' wpAnyH_take (i := 28) ?h1x28s ?hsx28s ?hfx28s ?hrx28s ?hQx28s (Or.inl ⟨?hwx28s, ?hyx28s⟩) hS ?restx28s
          case h1x28s => (simp only [List.getElem?_toArray, List.getElem?_cons_succ, List.getElem?_cons_zero]; rfl)
          case hsx28s => kernel_rfl
          case hfx28s => kernel_rfl
          case hrx28s => kernel_rfl
          case hQx28s => exact fun _ _ _ h => h
          case hwx28s => rfl
          case hyx28s =>
            intro W hW
            have dd := (hW.cell (p := ⟨qb, qo + 3, none⟩) L3.out).trans D3.out
            go_simp
            try with_reducible rfl
          simp only [Act.put, List.setIfInBounds_toArray, List.set_cons_succ, List.set_cons_zero]
          refine' wpAnyH_take (i := 29) ?h1x29s ?hsx29s ?hfx29s ?hrx29s ?hQx29s (Or.inl ⟨?hwx29s, ?hyx29s⟩) hS ?restx29s
          case h1x29s => (simp only [List.getElem?_toArray, List.getElem?_cons_succ, List.getElem?_cons_zero]; rfl)
          case hsx29s => kernel_rfl
          case hfx29s => kernel_rfl
          case hrx29s => kernel_rfl
          case hQx29s => exact fun _ _ _ h => h
          case hwx29s => rfl
          case hyx29s =>
            intro W hW
            go_simp
            try with_reducible rfl
          simp only [Act.put, List.setIfInBounds_toArray, List.set_cons_succ, List.set_cons_zero]
          refine' wpAnyH_take (i := 30) ?h1x30s ?hsx30s ?hfx30s ?hrx30s ?hQx30s (Or.inl ⟨?hwx30s, ?hyx30s⟩) hS ?restx30s
          case h1x30s => (simp only [List.getElem?_toArray, List.getElem?_cons_succ, List.getElem?_cons_zero]; rfl)
          case hsx30s => kernel_rfl
          case hfx30s => kernel_rfl
          case hrx30s => kernel_rfl
          case hQx30s => exact fun _ _ _ h => h
          case hwx30s => rfl
          case hyx30s =>
            intro W hW
            go_simp
            try with_reducible rfl
          simp only [Act.put, List.setIfInBounds_toArray, List.set_cons_succ, List.set_cons_zero]
          refine' wpAnyH_take (i := 31) ?h1x31s ?hsx31s ?hfx31s ?hrx31s ?hQx31s (Or.inl ⟨?hwx31s, ?hyx31s⟩) hS ?restx31s
          case h1x31s => (simp only [List.getElem?_toArray, List.getElem?_cons_succ, List.getElem?_cons_zero]; rfl)
          case hsx31s => kernel_rfl
          case hfx31s => kernel_rfl
          case hrx31s => kernel_rfl
          case hQx31s => exact fun _ _ _ h => h
          case hwx31s => rfl
          case hyx31s =>
            intro W hW
            go_simp
            try with_reducible rfl
          simp only [Act.put, List.setIfInBounds_toArray, List.set_cons_succ, List.set_cons_zero]
          refine' wpAnyH_take (i := 32) ?h1x32s ?hsx32s ?hfx32s ?hrx32s ?hQx32s (Or.inl ⟨?hwx32s, ?hyx32s⟩) hS ?restx32s
          case h1x32s => (simp only [List.getElem?_toArray, List.getElem?_cons_succ, List.getElem?_cons_zero]; rfl)
          case hsx32s => kernel_rfl
          case hfx32s => kernel_rfl
          case hrx32s => kernel_rfl
          case hQx32s => exact fun _ _ _ h => h
          case hwx32s => rfl
          case hyx32s =>
            intro W hW
            go_simp
            try with_reducible rfl
          simp only [Act.put, List.setIfInBounds_toArray, List.set_cons_succ, List.set_cons_zero]
          refine' wpAnyH_take (i := 33) ?h1x33s ?hsx33s ?hfx33s ?hrx33s ?hQx33s (Or.inl ⟨?hwx33s, ?hyx33s⟩) hS ?restx33s
          case h1x33s => (simp only [List.getElem?_toArray, List.getElem?_cons_succ, List.getElem?_cons_zero]; rfl)
          case hsx33s => kernel_rfl
          case hfx33s => kernel_rfl
          case hrx33s => kernel_rfl
          case hQx33s => exact fun _ _ _ h => h
          case hwx33s => rfl
          case hyx33s =>
            intro W hW
            go_simp
            try with_reducible rfl
          simp only [Act.put, List.setIfInBounds_toArray, List.set_cons_succ, List.set_cons_zero]
          refine' wpAnyH_take (i := 34) ?h1x34s ?hsx34s ?hfx34s ?hrx34s ?hQx34s (Or.inl ⟨?hwx34s, ?hyx34s⟩) hS ?restx34s
          case h1x34s => (simp only [List.getElem?_toArray, List.getElem?_cons_succ, List.getElem?_cons_zero]; rfl)
          case hsx34s => kernel_rfl
          case hfx34s => kernel_rfl
          case hrx34s => kernel_rfl
          case hQx34s => exact fun _ _ _ h => h
          case hwx34s => rfl
          case hyx34s =>
            intro W hW
            go_simp
            try with_reducible rfl
          simp only [Act.put, List.setIfInBounds_toArray, List.set_cons_succ, List.set_cons_zero]
          refine' wpAnyH_take (i := 35) ?h1x35s ?hsx35s ?hfx35s ?hrx35s ?hQx35s (Or.inl ⟨?hwx35s, ?hyx35s⟩) hS ?restx35s
          case h1x35s => (simp only [List.getElem?_toArray, List.getElem?_cons_succ, List.getElem?_cons_zero]; rfl)
          case hsx35s => kernel_rfl
          case hfx35s => kernel_rfl
          case hrx35s => kernel_rfl
          case hQx35s => exact fun _ _ _ h => h
          case hwx35s => rfl
          case hyx35s =>
            intro W hW
            go_simp
            try with_reducible rfl
          simp only [Act.put, List.setIfInBounds_toArray, List.set_cons_succ, List.set_cons_zero]
          refine' wpAnyH_take (i := 36) ?h1x36s ?hsx36s ?hfx36s ?hrx36s ?hQx36s (Or.inl ⟨?hwx36s, ?hyx36s⟩) hS ?restx36s
          case h1x36s => (simp only [List.getElem?_toArray, List.getElem?_cons_succ, List.getElem?_cons_zero]; rfl)
          case hsx36s => kernel_rfl
          case hfx36s => kernel_rfl
          case hrx36s => kernel_rfl
          case hQx36s => exact fun _ _ _ h => h
          case hwx36s => rfl
          case hyx36s =>
            intro W hW
            go_simp
            try with_reducible rfl
          simp only [Act.put, List.setIfInBounds_toArray, List.set_cons_succ, List.set_cons_zero]
          refine' wpAnyH_take (i := 37) ?h1x37s ?hsx37s ?hfx37s ?hrx37s ?hQx37s (Or.inl ⟨?hwx37s, ?hyx37s⟩) hS ?restx37s
          case h1x37s => (simp only [List.getElem?_toArray, List.getElem?_cons_succ, List.getElem?_cons_zero]; rfl)
          case hsx37s => kernel_rfl
          case hfx37s => kernel_rfl
          case hrx37s => kernel_rfl
          case hQx37s => exact fun _ _ _ h => h
          case hwx37s => rfl
          case hyx37s =>
            intro W hW
            have dd := (SP3.out.below hW).str
            go_simp
            try with_reducible rfl
          simp only [Act.put, List.setIfInBounds_toArray, List.set_cons_succ, List.set_cons_zero]
          refine' wpAnyH_take (i := 38) ?h1x38s ?hsx38s ?hfx38s ?hrx38s ?hQx38s (Or.inl ⟨?hwx38s, ?hyx38s⟩) hS ?restx38s
          case h1x38s => (simp only [List.getElem?_toArray, List.getElem?_cons_succ, List.getElem?_cons_zero]; rfl)
          case hsx38s => kernel_rfl
          case hfx38s => kernel_rfl
          case hrx38s => kernel_rfl
          case hQx38s => exact fun _ _ _ h => h
          case hwx38s => rfl
          case hyx38s =>
            intro W hW
            have dd := arr16_all
            go_simp
            try with_reducible rfl
          simp only [Act.put, List.setIfInBounds_toArray, List.set_cons_succ, List.set_cons_zero]
          refine' wpAnyH_take (i := 39) ?h1x39s ?hsx39s ?hfx39s ?hrx39s ?hQx39s (Or.inl ⟨?hwx39s, ?hyx39s⟩) hS ?restx39s
          case h1x39s => (simp only [List.getElem?_toArray, List.getElem?_cons_succ, List.getElem?_cons_zero]; rfl)
          case hsx39s => kernel_rfl
          case hfx39s => kernel_rfl
          case hrx39s => kernel_rfl
          case hQx39s => exact fun _ _ _ h => h
          case hwx39s => rfl
          case hyx39s =>
            intro W hW
            have dd := (SB3.out.below hW).str
            go_simp
            try with_reducible rfl
          simp only [Act.put, List.setIfInBounds_toArray, List.set_cons_succ, List.set_cons_zero]
          refine' wpAnyH_take (i := 40) ?h1x40s ?hsx40s ?hfx40s ?hrx40s ?hQx40s (Or.inl ⟨?hwx40s, ?hyx40s⟩) hS ?restx40s
          case h1x40s => (simp only [List.getElem?_toArray, List.getElem?_cons_succ, List.getElem?_cons_zero]; rfl)
          case hsx40s => kernel_rfl
          case hfx40s => kernel_rfl
          case hrx40s => kernel_rfl
          case hQx40s => exact fun _ _ _ h => h
          case hwx40s => rfl
          case hyx40s =>
            intro W hW
            have dd := SQ.out
            go_simp
            try with_reducible rfl
          simp only [Act.put, List.setIfInBounds_toArray, List.set_cons_succ, List.set_cons_zero]
          refine' wpAnyH_take (i := 41) ?h1x41s ?hsx41s ?hfx41s ?hrx41s ?hQx41s (Or.inl ⟨?hwx41s, ?hyx41s⟩) hS ?restx41s
          case h1x41s => (simp only [List.getElem?_toArray, List.getElem?_cons_succ, List.getElem?_cons_zero]; rfl)
          case hsx41s => kernel_rfl
          case hfx41s => kernel_rfl
          case hrx41s => kernel_rfl
          case hQx41s => exact fun _ _ _ h => h
          case hwx41s => rfl
          case hyx41s =>
            intro W hW
            go_simp
            try with_reducible rfl
          simp only [Act.put, List.setIfInBounds_toArray, List.set_cons_succ, List.set_cons_zero]
          refine' wpAnyH_take (i := 42) ?h1x42s ?hsx42s ?hfx42s ?hrx42s ?hQx42s (Or.inl ⟨?hwx42s, ?hyx42s⟩) hS ?restx42s
          case h1x42s => (simp only [List.getElem?_toArray, List.getElem?_cons_succ, List.getElem?_cons_zero]; rfl)
          case hsx42s => kernel_rfl
          case hfx42s => kernel_rfl
          case hrx42s => kernel_rfl
          case hQx42s => exact fun _ _ _ h => h
          case hwx42s => rfl
          case hyx42s =>
            intro W hW
            go_simp
            try with_reducible rfl
          simp only [Act.put, List.setIfInBounds_toArray, List.set_cons_succ, List.set_cons_zero]
          refine' wpAnyH_take (i := 43) ?h1x43s ?hsx43s ?hfx43s ?hrx43s ?hQx43s (Or.inl ⟨?hwx43s, ?hyx43s⟩) hS ?restx43s
          case h1x43s => (simp only [List.getElem?_toArray, List.getElem?_cons_succ, List.getElem?_cons_zero]; rfl)
          case hsx43s => kernel_rfl
          case hfx43s => kernel_rfl
          case hrx43s => kernel_rfl
          case hQx43s => exact fun _ _ _ h => h
          case hwx43s => rfl
          case hyx43s =>
            intro W hW
            go_simp
            try with_reducible rfl
          simp only [Act.put, List.setIfInBounds_toArray, List.set_cons_succ, List.set_cons_zero]
          refine' wpAnyH_take (i := 44) ?h1x44s ?hsx44s ?hfx44s ?hrx44s ?hQx44s (Or.inl ⟨?hwx44s, ?hyx44s⟩) hS ?restx44s
          case h1x44s => (simp only [List.getElem?_toArray, List.getElem?_cons_succ, List.getElem?_cons_zero]; rfl)
          case hsx44s => kernel_rfl
          case hfx44s => kernel_rfl
          case hrx44s => kernel_rfl
          case hQx44s => exact fun _ _ _ h => h
          case hwx44s => rfl
          case hyx44s =>
            intro W hW
            go_simp
            try with_reducible rfl
          simp only [Act.put, List.setIfInBounds_toArray, List.set_cons_succ, List.set_cons_zero]
          refine' wpAnyH_take (i := 45) ?h1x45s ?hsx45s ?hfx45s ?hrx45s ?hQx45s (Or.inl ⟨?hwx45s, ?hyx45s⟩) hS ?restx45s
          case h1x45s => (simp only [List.getElem?_toArray, List.getElem?_cons_succ, List.getElem?_cons_zero]; rfl)
          case hsx45s => kernel_rfl
          case hfx45s => kernel_rfl
          case hrx45s => kernel_rfl
          case hQx45s => exact fun _ _ _ h => h
          case hwx45s => rfl
          case hyx45s =>
            intro W hW
            go_simp
            try with_reducible rfl
          simp only [Act.put, List.setIfInBounds_toArray, List.set_cons_succ, List.set_cons_zero]
          refine' wpAnyH_take (i := 46) ?h1x46s ?hsx46s ?hfx46s ?hrx46s ?hQx46s (Or.inl ⟨?hwx46s, ?hyx46s⟩) hS ?restx46s
          case h1x46s => (simp only [List.getElem?_toArray, List.getElem?_cons_succ, List.getElem?_cons_zero]; rfl)
          case hsx46s => kernel_rfl
          case hfx46s => kernel_rfl
          case hrx46s => kernel_rfl
          case hQx46s => exact fun _ _ _ h => h
          case hwx46s => rfl
          case hyx46s =>
            intro W hW
            go_simp
            try with_reducible rfl
          simp only [Act.put, List.setIfInBounds_toArray, List.set_cons_zero]
          refine wpAnyH_done (by kernel_rfl) ?_ _
          go_wp2_with fail
          go_ret
          exact ⟨rfl, B3.out.trans (hS.mono B3.out.size)⟩
end Go.Proofs.Ytekffhopmicalaa
