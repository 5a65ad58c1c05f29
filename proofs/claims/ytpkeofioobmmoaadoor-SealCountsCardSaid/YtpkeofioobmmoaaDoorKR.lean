/-
  The contract of the document's own Turn of blocks. Condition: none.
-/
import Derived.Test.YtpkeofioobmmoaaDoorK1
import Derived.Test.YtpkeofioobmmoaaDoorAeRefH
namespace Go.Proofs.YtpkeofioobmmoaaDoor
open Go.RowKit Go.Proofs.YtpkeofioobmmoaaDoor.ae
theorem sees_ae {w : World} {v : Value} {l : List Nat} (hb : ae.Byt l) (h : sh.Sees w v (zl l)) : ae.Sees w v l := by
  obtain ⟨h1, ⟨rfl, h2⟩ | ⟨a, cap, rfl, h2, h3⟩ | ⟨b, o, cap, rfl, h3, h4, h5, h6⟩⟩ := h
  · have : l = [] := by have := congrArg List.length h2; rw [zl_len] at this; exact List.length_eq_zero_iff.1 this
    exact ⟨hb, .inl ⟨rfl, this⟩⟩
  · have : l = [] := by have := congrArg List.length h2; rw [zl_len] at this; exact List.length_eq_zero_iff.1 this
    exact ⟨hb, .inr (.inl ⟨a, cap, rfl, this, h3⟩)⟩
  · refine ⟨hb, .inr (.inr ⟨b, o, cap, by rw [zl_len], fun e => h3 (by rw [e]; rfl), by rw [zl_len] at h4; exact h4, h5, fun i hi => ?_⟩)⟩
    rw [h6 i (by rw [zl_len]; exact hi), nth_zl]
def TextP (w : World) (n : Nat) (xs : List Nat) (e : Ending) (w' : World) : Prop := ∃ q c, e = .returned (.slice q n c) ∧ ae.Sees w' (.slice q n c) xs ∧ Below w.heap.size w w'
theorem refDer (vk : Value) (key nm : List Nat) (num : Nat) (hnum : num ≤ 18446744073709551615) (w : World) (hk : ae.Sees w vk key) (lk : key.length ≤ 1000) (hv : ae.Byt nm) (ln : nm.length ≤ 900) (s : ByteArray) (hs : s = ae.strN nm) :
    Calls Tryd.prog 36 #[vk, .string s, .int .u64 num] w (TextP w 32 (derN key nm num)) := by
  have h := sh.deriveD vk (zl key) (zl nm) num (by omega) w (sees_sh hk) (byt_zl hv) (by rw [zl_len]; exact lk) (by rw [zl_len]; exact ln)
  have e : sh.tstr (zl key) (zl nm ++ sh.be 8 num) 1 = zl (derN key nm num) := by
    rw [derN_one key nm num hk.1, zl_toN (sh.tstr_byt _ _ _)]
  rw [hs]
  refine h.mono ?_
  rintro e' w' ⟨x, cap, rfl, ho, hb⟩
  have l := derN_bts nm num hk.1
  rw [e] at ho ⊢
  have hs2 := sees_ae l.2 ho.sees
  rw [zl_len, l.1] at hs2 ⊢
  exact ⟨x, cap, rfl, hs2, hb⟩
def TurnP (w : World) (J : List Nat) (e : Ending) (w' : World) : Prop := ∃ q c, e = .returned (.tuple #[.slice q 512 c, .int .i64 0]) ∧ ae.Sees w' (.slice q 512 c) J ∧ Below w.heap.size w w'
set_option maxRecDepth 100000 in
set_option maxHeartbeats 4000000 in
theorem refTurn (m b : List Nat) (hm : ae.Bts 32 m) (n s : Nat) (hn : n ≤ 18446744073709551615) (hs64 : s ≤ 18446744073709551615) (bk : Bool) (y : Option Addr) (cy : Nat) (x : Option Addr) (cap : Nat) (w : World) (hk : ae.Sees w (.slice y 32 cy) m) (hs : ae.Sees w (.slice x 512 cap) b) (hL : 512 = b.length) :
    Calls Tryd.prog 23 #[.slice y 32 cy, .int .u64 n, .int .u64 s, .slice x 512 cap, .bool bk] w (TurnP w (sct (cond bk (dec (vone m n)) (enc (vone m n))) (enc (vtwo m n) (twk s)) b 32)) := by
  have D1 : Hid (∀ W : World, ae.Sees W (.slice y 32 cy) m → Calls Tryd.prog 36 #[.slice y 32 cy, .string ⟨#[111, 110, 101]⟩, .int .u64 n] W (TextP W 32 (vone m n))) := fun W h => refDer _ m nOne n hn W h (by rw [hm.1]; omega) nOne_byt (by decide) _ (by kernel_rfl)
  have D2 : Hid (∀ W : World, ae.Sees W (.slice y 32 cy) m → Calls Tryd.prog 36 #[.slice y 32 cy, .string ⟨#[116, 119, 111]⟩, .int .u64 n] W (TextP W 32 (vtwo m n))) := fun W h => refDer _ m nTwo n hn W h (by rw [hm.1]; omega) nTwo_byt (by decide) _ (by kernel_rfl)
  have NW : ∀ (k : List Nat) (q : Option Addr) (c : Nat) (W : World), ae.Bts 32 k → ae.Sees W (.slice q 32 c) k → Calls Tryd.prog 35 #[.slice q 32 c] W fun e w' => ∃ g, e = .returned (.pointer (some ⟨g, 0, none⟩)) ∧ RC w' g k ∧ Below W.heap.size W w' := fun k q c W hk h => by
    obtain ⟨kb, ko, rfl, h1, h2, h3, h4⟩ := h.cells (fun e => by have := hk.1; rw [e] at this; simp at this)
    exact refNew k kb ko c W hk (fun i hi => h4 i (by rw [hk.1]; exact hi)) h2 h3
  have N1 : Hid (∀ (q : Option Addr) (c : Nat) (W : World), ae.Sees W (.slice q 32 c) (vone m n) → Calls Tryd.prog 35 #[.slice q 32 c] W fun e w' => ∃ g, e = .returned (.pointer (some ⟨g, 0, none⟩)) ∧ RC w' g (vone m n) ∧ Below W.heap.size W w') := fun q c W h => NW _ q c W (vone_bts n hm) h
  have N2 : Hid (∀ (q : Option Addr) (c : Nat) (W : World), ae.Sees W (.slice q 32 c) (vtwo m n) → Calls Tryd.prog 35 #[.slice q 32 c] W fun e w' => ∃ g, e = .returned (.pointer (some ⟨g, 0, none⟩)) ∧ RC w' g (vtwo m n) ∧ Below W.heap.size W w') := fun q c W h => NW _ q c W (vtwo_bts n hm) h
  have TW : Hid (∀ W : World, Calls Tryd.prog 38 #[.int .u64 s] W (TextP W 16 (twk s))) := fun W => by
    refine (refTweak s (by omega) W).mono ?_
    rintro e w' ⟨x, cap, rfl, ho, hb⟩
    have l : (twk s).length = 16 := (twk_bts s).1
    have h2 := ho.sees
    rw [l] at h2 ⊢
    exact ⟨x, cap, rfl, h2, hb⟩
  have SC : Hid (∀ (g1 g2 : Nat) (q : Option Addr) (c : Nat) (W : World), RC W g1 (vone m n) → RC W g2 (vtwo m n) → ae.Sees W (.slice q 16 c) (twk s) → ae.Sees W (.slice x 512 cap) b → Calls Tryd.prog 37 #[.pointer (some ⟨g1, 0, none⟩), .pointer (some ⟨g2, 0, none⟩), .slice q 16 c, .slice x 512 cap, .bool bk] W (TurnP W (sct (cond bk (dec (vone m n)) (enc (vone m n))) (enc (vtwo m n) (twk s)) b 32))) :=
    fun g1 g2 q c W h1 h2 ht hv => refSector (vone m n) (vtwo m n) (twk s) b (vone_bts n hm) (vtwo_bts n hm) (twk_bts s) g1 g2 512 32 bk q c x cap W h1 h2 ht hv hL rfl (by omega) (by omega)
  have HK := Lib.hid hk
  have HS := Lib.hid hs
  have HB : Hid (Below w.heap.size w w) := Below.refl _ _
  clear hm hn hs64 hk hs hL NW
  generalize sct (cond bk (dec (vone m n)) (enc (vone m n))) (enc (vtwo m n) (twk s)) b 32 = J at SC ⊢
  generalize vone m n = K1 at D1 N1 SC
  generalize vtwo m n = K2 at D2 N2 SC
  generalize twk s = T at TW SC
  go_enter Tryd.func23, Tryd.ntmps23
  go_wp2_with fail
  refine (D1.out _ HK.out).mono ?_
  rintro e w1 ⟨q1, c1, rfl, hs, hb⟩
  have HK := Lib.hid (HK.out.below hb)
  have HS := Lib.hid (HS.out.below hb)
  have HB := Lib.hid (HB.out.trans (hb.mono HB.out.size))
  have S1 := Lib.hid hs
  clear hs
  clear hb D1
  go_wp2_with fail
  refine (N1.out _ _ _ S1.out).mono ?_
  rintro e w2 ⟨g1, rfl, hx, hb⟩
  have HK := Lib.hid (HK.out.below hb)
  have HS := Lib.hid (HS.out.below hb)
  have HB := Lib.hid (HB.out.trans (hb.mono HB.out.size))
  have S1 := Lib.hid (S1.out.below hb)
  have X1 := Lib.hid hx
  clear hx
  clear hb N1 S1
  go_wp2_with fail
  refine (D2.out _ HK.out).mono ?_
  rintro e w3 ⟨q2, c2, rfl, hs, hb⟩
  have HK := Lib.hid (HK.out.below hb)
  have HS := Lib.hid (HS.out.below hb)
  have HB := Lib.hid (HB.out.trans (hb.mono HB.out.size))
  have X1 := Lib.hid (X1.out.below hb)
  have S2 := Lib.hid hs
  clear hs
  clear hb D2 HK
  go_wp2_with fail
  refine (N2.out _ _ _ S2.out).mono ?_
  rintro e w4 ⟨g2, rfl, hx, hb⟩
  have HS := Lib.hid (HS.out.below hb)
  have HB := Lib.hid (HB.out.trans (hb.mono HB.out.size))
  have X1 := Lib.hid (X1.out.below hb)
  have S2 := Lib.hid (S2.out.below hb)
  have X2 := Lib.hid hx
  clear hx
  clear hb N2 S2
  go_wp2_with fail
  refine (TW.out _).mono ?_
  rintro e w5 ⟨q3, c3, rfl, hs, hb⟩
  have HS := Lib.hid (HS.out.below hb)
  have HB := Lib.hid (HB.out.trans (hb.mono HB.out.size))
  have X1 := Lib.hid (X1.out.below hb)
  have X2 := Lib.hid (X2.out.below hb)
  have S3 := Lib.hid hs
  clear hs
  clear hb TW
  go_wp2_with fail
  refine (SC.out _ _ _ _ _ X1.out X2.out S3.out HS.out).mono ?_
  rintro e w6 ⟨q4, c4, rfl, hs, hb⟩
  have HS := Lib.hid (HS.out.below hb)
  have HB := Lib.hid (HB.out.trans (hb.mono HB.out.size))
  have X1 := Lib.hid (X1.out.below hb)
  have X2 := Lib.hid (X2.out.below hb)
  have S3 := Lib.hid (S3.out.below hb)
  have S4 := Lib.hid hs
  clear hs hb
  go_wp2_with fail
  go_ret2
  exact ⟨q4, c4, rfl, S4.out, HB.out⟩
set_option maxRecDepth 100000 in
theorem refTurnNo (n s : Nat) (bk : Bool) (v : Value) (x : Option Addr) (L cap : Nat) (hL : L ≠ 512) (w : World) :
    Calls Tryd.prog 23 #[v, .int .u64 n, .int .u64 s, .slice x L cap, .bool bk] w fun e w' => e = .returned (.tuple #[.slice none 0 0, .int .i64 3]) ∧ w = w' := by
  have hl : ((L : Int) != 512) = true := by simp; omega
  clear hL
  go_enter Tryd.func23, Tryd.ntmps23
  go_wp2_with fail
  go_ret2
  exact ⟨rfl, rfl⟩
end Go.Proofs.YtpkeofioobmmoaaDoor
