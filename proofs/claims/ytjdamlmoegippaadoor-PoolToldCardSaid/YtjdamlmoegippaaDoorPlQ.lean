/-
  A play of puts and drops as a list: which extents are held, by whom, with which block. Condition: none.
-/
import Derived.Test.YtjdamlmoegippaaDoorPlI
import Derived.Test.YtjdamlmoegippaaDoorPlG
import Derived.Test.YtjdamlmoegippaaDoorExV
import Derived.Test.YtjdamlmoegippaaDoorDkPK
import Derived.Test.YtjdamlmoegippaaDoorDkDR
namespace Go.Proofs.YtjdamlmoegippaaDoor.pl
open Go.RowKit
/-- What the first tenants may. -/
def tB : Nat → Nat → ex.Acc
  | 0 => fun _ => ex.a0
  | k + 1 => ex.updT (tB k) (k + 1) ⟨true, (k + 1 : Nat), (4 * (k + 1) : Nat), 0⟩
def sB (k : Nat) : ex.St := ⟨fun _ => 0, tB k⟩
theorem admB (k : Nat) (h : k < 3) : ex.sAdm 20 (sB k) (k + 1 : Nat) (k + 1 : Nat) (4 * (k + 1) : Nat) = (0, sB (k + 1)) := by
  obtain rfl | rfl | rfl : k = 0 ∨ k = 1 ∨ k = 2 := by omega
  all_goals
    unfold ex.sAdm
    rw [if_pos (by unfold ex.mayL; decide), if_neg (by decide), if_neg (by decide)]
    rfl
/-- A pool as begin leaves it. -/
def BegP (w : World) (e : Ending) (w' : World) : Prop :=
  ∃ (A : PA) (S : Nat → Prop), e = .returned (.tuple #[.pointer (some ⟨A.gd, 0, none⟩), .pointer (some ⟨A.p, 0, none⟩), .bool true]) ∧ PW w' A D0 (sB 3) S [] ∧ (A.ct = 20 ∧ A.fr = 5 ∧ A.N = 25 ∧ A.B = w.heap.size) ∧ Below w.heap.size w w'
set_option maxRecDepth 100000 in
set_option maxHeartbeats 8000000 in
theorem begin14 (w : World) (hG : hl.Glob w) : Calls Tryd.prog 14 #[] w (BegP w) := by
  have HG := Lib.hid hG
  have ND : Hid (Calls Tryd.prog 29 #[.int .i64 25] w (dk.pv.NewDP (fun _ => False) w 25)) := dk.pv.newD 25 (by omega) (by omega) w
  clear hG
  go_enter Tryd.func14, Tryd.ntmps14
  go_wp2_with fail
  refine ND.out.mono ?_
  rintro e w1 ⟨gd, sb, hb, rfl, hdk, d1, d2, d3, hb1⟩
  have D1 := Lib.hid hdk
  have DD := Lib.hid (⟨d1, d2, d3⟩ : w.heap.size ≤ gd ∧ w.heap.size ≤ sb ∧ w.heap.size ≤ hb)
  have B1 := Lib.hid hb1
  clear hdk d1 d2 d3 hb1 ND
  have NL : Hid (Calls Tryd.prog 30 #[] w1 (hl.NewLP w1)) := hl.newL w1 (by have := HG.out.lt; have := B1.out.size; omega)
  go_wp2_with fail
  refine NL.out.mono ?_
  rintro e w2 ⟨gl, rfl, hlg, _, hb2⟩
  have L2 := Lib.hid hlg
  have B2 := Lib.hid hb2
  clear hlg hb2 NL
  have NP : Hid (Calls Tryd.prog 10 #[.pointer (some ⟨gd, 0, none⟩), .int .i64 5, .int .i64 20, .pointer (some ⟨gl, 0, none⟩)] w2 (NewPP w2 gd 20 (.pointer (some ⟨gl, 0, none⟩)) 5)) := new_ok w2 (D1.out.below B2.out).old 5 20 (some ⟨gl, 0, none⟩) (by omega) (by omega) (by omega)
  go_wp2_with fail
  refine NP.out.mono ?_
  rintro e w3 ⟨p, gf, gb, rb, mb, wb, rfl, hpl, hfd, hs3, hb3⟩
  have H3 := Lib.hid (mkPW HG.out D1.out DD.out.1 DD.out.2.1 DD.out.2.2 B1.out L2.out B2.out hpl hfd hs3 hb3)
  have B3 : Hid (Below w.heap.size w w3) := (B1.out.trans (B2.out.mono B1.out.size)).trans (hb3.mono (Nat.le_trans B1.out.size B2.out.size))
  obtain ⟨S3, hS3⟩ : ∃ S3 : Nat → Prop, S3 = fun b => w1.heap.size ≤ b ∧ b < w1.heap.size + 2 := ⟨_, rfl⟩
  rw [← hS3] at H3
  obtain ⟨A, hA⟩ : ∃ A : PA, A = ⟨p, gd, sb, hb, gf, rb, mb, wb, gb, gl, 25, 5, 20, w.heap.size, fun _ => False⟩ := ⟨_, rfl⟩
  have AP : Hid (p = A.p) := by rw [hA]; rfl
  have AD : Hid (gd = A.gd) := by rw [hA]; rfl
  have AF : Hid (gf = A.gf) := by rw [hA]; rfl
  have AC : Hid (A.ct = 20 ∧ A.fr = 5 ∧ A.N = 25 ∧ A.B = w.heap.size) := by rw [hA]; exact ⟨rfl, rfl, rfl, rfl⟩
  rw [← hA] at H3
  clear hpl hfd hs3 hb3 hA hS3 D1 DD B1 L2 B2 NP HG
  go_wp2_with fail
  go_loopg [7] 3 (fun r vi wr => ∃ k : Nat, r + k = 3 ∧ vi = .int .i64 ((k + 1 : Nat) : Int) ∧ PW wr A D0 (sB k) S3 [] ∧ Below w.heap.size w wr)
  case atStart => exact ⟨0, by omega, rfl, H3.out, B3.out⟩
  case round =>
    clear H3 B3
    obtain ⟨k, hr, rfl, hh, hb⟩ := hrel
    have HR := Lib.hid hr
    have H := Lib.hid hh
    have B := Lib.hid hb
    clear hr hh hb
    by_cases hk : k < 3
    · have hk4 : ((k + 1 : Nat) : Int) < 4 := by omega
      have FLD : Hid (Calls Tryd.prog 12 #[.pointer (some ⟨p, 0, none⟩)] wr fun e w' => e = .returned (.pointer (some ⟨gf, 0, none⟩)) ∧ wr = w') := by
        rw [AP.out, AF.out]
        exact field H.out.pool
      have AM : Hid (Calls Tryd.prog 31 #[.pointer (some ⟨gf, 0, none⟩), .int .i64 ((k + 1 : Nat) : Int), .int .i64 ((k + 1 : Nat) : Int), .int .i64 ((4 * (k + 1) : Nat) : Int)] wr fun e w' => e = .returned (.int .i64 0) ∧ ex.FS w' A.gf A.rb A.mb A.wb A.ct (sB (k + 1)) ∧ ex.Mods (ex.Ft A.gf A.mb A.wb) wr w') := by
        have hq := ex.admS H.out.fd ((k + 1 : Nat) : Int) ((k + 1 : Nat) : Int) ((4 * (k + 1) : Nat) : Int)
        unfold ex.CS at hq
        rw [AC.out.1, admB k hk] at hq
        rw [AF.out, AC.out.1]
        exact hq
      obtain ⟨v, hv⟩ : ∃ v : Int, v = ((k + 1 : Nat) : Int) := ⟨_, rfl⟩
      have hv4 : ((4 * (k + 1) : Nat) : Int) = 4 * v := by omega
      rw [hv4] at AM
      rw [← hv] at AM hk4
      have HV := Lib.hid hv
      have HK := Lib.hid hk
      have hv0 : 1 ≤ v := by omega
      try rw [← hv]
      clear hv hv4 hk
      go_wp2_with fail
      refine FLD.out.mono ?_
      rintro e w' ⟨rfl, rfl⟩
      go_wp2_with fail
      refine AM.out.mono ?_
      rintro e w4 ⟨rfl, hf4, hm4⟩
      have H4 := Lib.hid (H.out.field hf4 hm4)
      have B4 := Lib.hid (AC.out.2.2.2 ▸ H.out.fram (by rw [AC.out.2.2.2]; exact B.out) (dkm hm4) (fun _ h => .inr (.inl h)) : Below w.heap.size w w4)
      clear hf4 hm4 FLD AM
      go_wp2_with fail
      go_roundg (3 - (k + 1))
      case measure => have := HR.out; have := HK.out; omega
      case rel => exact ⟨k + 1, by have := HK.out; omega, by have := HV.out; go_num, H4.out, B4.out⟩
    · obtain rfl : k = 3 := by have := HR.out; omega
      clear hk
      go_wp2_with fail
      go_ret3
      exact ⟨A, S3, by show Ending.returned (.tuple #[.pointer (some ⟨gd, 0, none⟩), .pointer (some ⟨p, 0, none⟩), .bool true]) = _; rw [← AP.out, ← AD.out], H.out, AC.out, B.out⟩
end Go.Proofs.YtjdamlmoegippaaDoor.pl
namespace Go.Proofs.YtjdamlmoegippaaDoor.pl
open Go.RowKit
/-- What a Take that went through did. -/
theorem tak_told {w : World} {g rb mb wb N : Nat} {s : ex.St} {t : Int} (h : ex.FS w g rb mb wb N s) (htk : (ex.sTak N s t).1 = 0) :
    ∃ n : Nat, t = n ∧ 1 ≤ n ∧ n ≤ 8 ∧ (s.T n).i = true ∧ ex.xTak N s t = ex.fst s.f N ∧ ex.fst s.f N < N ∧ s.f (ex.fst s.f N) = 0 ∧ (ex.sTak N s t).2 = ⟨ex.upd s.f (ex.fst s.f N) (s.f (ex.fst s.f N) + 1), ex.addT s.T n 1⟩ := by
  have hx : ex.xTak N s t = ex.fst s.f N := by unfold ex.xTak; rw [if_pos htk]
  by_cases hi : ex.isIn s.T t
  · have e : ex.sTak N s t = ex.sGet N s t.toNat (ex.fst s.f N) := if_pos hi
    obtain ⟨h1, h8, hT⟩ := hi
    have e2 : t = (t.toNat : Nat) := by omega
    by_cases hr : ex.roomC N s.T t.toNat = 0
    · have e3 : ex.sGet N s t.toNat (ex.fst s.f N) = (0, ⟨ex.upd s.f (ex.fst s.f N) (s.f (ex.fst s.f N) + 1), ex.addT s.T t.toNat 1⟩) := if_pos hr
      obtain ⟨_, _, hc⟩ := ex.roomC_room h t.toNat (by omega) (by omega) hr
      obtain ⟨f1, f2, f3⟩ := ex.fst_spec s.f N
      have hl : ex.fst s.f N < N := by
        rcases Nat.lt_or_ge (ex.fst s.f N) N with h | h
        · exact h
        · have := ex.cnt_full (f := s.f) N (fun j hj => f2 j (by omega))
          omega
      exact ⟨t.toNat, e2, by omega, by omega, hT, hx, hl, f3 hl, by rw [e, e3]⟩
    · have e3 : ex.sGet N s t.toNat (ex.fst s.f N) = (ex.roomC N s.T t.toNat, s) := if_neg hr
      rw [e, e3] at htk
      exact absurd htk hr
  · have e : ex.sTak N s t = (51, s) := if_neg hi
    rw [e] at htk
    exact absurd htk (by show ¬ (51 : Int) = 0; decide)
end Go.Proofs.YtjdamlmoegippaaDoor.pl
namespace Go.Proofs.YtjdamlmoegippaaDoor.pl
open Go.ChangeShapes Go.WideShapes Go.ChangeAt Go.RowKit Go.Deep
theorem c3 : Tryd.prog.cellsOf 3 = 1 := by kernel_rfl
theorem c5 : Tryd.prog.cellsOf 5 = 1 := by kernel_rfl
/-- A slice of ops. -/
def OS (w : World) (x : Option Addr) (l : Nat) : Prop := l ≤ maxLen ∧ ∀ i, i < l → ∃ (k t a n : Int) (y b o : Nat), x = some ⟨b, o, none⟩ ∧ b < w.heap.size ∧ y < 256 ∧ (-9223372036854775808 ≤ t ∧ t ≤ 9223372036854775807) ∧ (-9223372036854775808 ≤ a ∧ a ≤ 9223372036854775807) ∧
  w.cell? ⟨b, o + i * 5, none⟩ = some (.int .i64 k) ∧ w.cell? ⟨b, o + i * 5 + 1, none⟩ = some (.int .i64 t) ∧ w.cell? ⟨b, o + i * 5 + 2, none⟩ = some (.int .i64 a) ∧ w.cell? ⟨b, o + i * 5 + 3, none⟩ = some (.int .i64 n) ∧ w.cell? ⟨b, o + i * 5 + 4, none⟩ = some (.int .u8 (y : Int))
section
variable {H : Type} {enc : TypeId × Value → H} {w : World} {base : Nat} {sp : Nat → Bool} {held : Bool} {n : Nat} {x : DataW H × List MemPlace}
end
theorem OS.below {w w' : World} {x : Option Addr} {l : Nat} (h : OS w x l) (hb : Below w.heap.size w w') : OS w' x l := ⟨h.1, fun i hi => by
  obtain ⟨k, t, a, n, y, b, o, e, h1, h2, h3, h4, g0, g1, g2, g3, g4⟩ := h.2 i hi
  exact ⟨k, t, a, n, y, b, o, e, Nat.lt_of_lt_of_le h1 hb.size, h2, h3, h4, (hb.cell h1).trans g0, (hb.cell h1).trans g1, (hb.cell h1).trans g2, (hb.cell h1).trans g3, (hb.cell h1).trans g4⟩⟩
section
variable {w : World} {A : PA} {D : DS} {s : ex.St} {S : Nat → Prop} {T : List (List Int)}
theorem addT_len (T : List (List Int)) (x : List Int) : (hl.addT T x).length ≤ T.length + 1 := by
  unfold hl.addT
  split <;> simp
end
end Go.Proofs.YtjdamlmoegippaaDoor.pl
namespace Go.Proofs.YtjdamlmoegippaaDoor.pl
open Go.RowKit
/-- What was put: where, whose (0: dropped), which octet. -/
abbrev En := Nat × Nat × Nat
/-- The cells of the references, the tenants, the octets. -/
def flr (E : List En) : List Value := E.flatMap fun e => rl e.1 (hl.sha (bI e.2.2))
def flw (E : List En) : List Value := E.map fun e => .int .i64 (e.2.1 : Int)
def flb (E : List En) : List Value := E.map fun e => .int .u8 (e.2.2 : Int)
def cnT (t : Nat) (E : List En) : Nat := E.countP fun e => e.2.1 == t
/-- What holds of a field and a disk after a play. -/
structure JN (N fr : Nat) (s : ex.St) (su : Nat → Option Nat) (ws : List (Nat × Nat)) (E : List En) : Prop where
  lt : ∀ e, e ∈ E → e.1 < N ∧ e.2.1 ≤ 8 ∧ e.2.2 < 256
  held : ∀ e, e ∈ E → e.2.1 ≠ 0 → (s.T e.2.1).i = true ∧ s.f e.1 = 1 ∧ pY (dk.shwn su ws (fr + e.1)) = e.2.2
  one : ∀ (j k : Nat) (a b : En), E[j]? = some a → E[k]? = some b → a.2.1 ≠ 0 → b.2.1 ≠ 0 → a.1 = b.1 → j = k
  cn : ∀ t, t ≠ 0 → (cnT t E : Int) ≤ (s.T t).c
theorem JN.nil (N fr : Nat) (s : ex.St) (su : Nat → Option Nat) (ws : List (Nat × Nat)) (h : ∀ t, 0 ≤ (s.T t).c) : JN N fr s su ws [] :=
  ⟨fun _ he => absurd he List.not_mem_nil, fun _ he => absurd he List.not_mem_nil, fun _ _ _ _ hj => absurd hj (by simp), fun t _ => by simpa [cnT] using h t⟩
theorem shwn_push (su : Nat → Option Nat) (ws : List (Nat × Nat)) (s y k : Nat) : dk.shwn su (ws ++ [(s, y)]) k = if k = s then some y else dk.shwn su ws k := by
  unfold dk.shwn
  rw [dk.lastW_app]
  by_cases e : k = s
  · subst e; simp
  · simp [e, Ne.symm e]
/-- A put that went through. -/
theorem JN.put {N fr : Nat} {s : ex.St} {su : Nat → Option Nat} {ws : List (Nat × Nat)} {E : List En} (h : JN N fr s su ws E) (n t y : Nat) (hn : n < N) (h8 : t ≤ 8) (hy : y < 256) (hi : (s.T t).i = true) (h0 : s.f n = 0) :
    JN N fr ⟨ex.upd s.f n (s.f n + 1), ex.addT s.T t 1⟩ su (ws ++ [(fr + n, y)]) (E ++ [(n, t, y)]) := by
  have ai : ∀ k, (ex.addT s.T t 1 k).i = (s.T k).i := fun k => by
    unfold ex.addT ex.updT
    by_cases e : k = t
    · rw [if_pos e, e]
    · rw [if_neg e]
  have ne : ∀ e, e ∈ E → e.2.1 ≠ 0 → e.1 ≠ n := fun e he ht hn => by
    have := (h.held e he ht).2.1
    rw [hn, h0] at this
    cases this
  refine ⟨fun e he => ?_, fun e he ht => ?_, fun j k a b hj hk ha hb e => ?_, fun t' ht => ?_⟩
  · rcases List.mem_append.1 he with he | he
    · exact h.lt e he
    · obtain rfl := List.mem_singleton.1 he
      exact ⟨hn, h8, hy⟩
  · rcases List.mem_append.1 he with he | he
    · obtain ⟨q1, q2, q3⟩ := h.held e he ht
      have q := ne e he ht
      refine ⟨(ai _).trans q1, ?_, ?_⟩
      · show ex.upd s.f n (s.f n + 1) e.1 = 1
        unfold ex.upd
        rw [if_neg q]; exact q2
      · rw [shwn_push, if_neg (by omega)]; exact q3
    · obtain rfl := List.mem_singleton.1 he
      refine ⟨(ai _).trans hi, ?_, ?_⟩
      · show ex.upd s.f n (s.f n + 1) n = 1
        unfold ex.upd
        rw [if_pos rfl, h0]
      · show pY (dk.shwn su (ws ++ [(fr + n, y)]) (fr + n)) = y
        rw [shwn_push, if_pos rfl]; rfl
  · have cs : ∀ (j : Nat) (a : En), (E ++ [(n, t, y)])[j]? = some a → E[j]? = some a ∨ (j = E.length ∧ a = (n, t, y)) := fun j a hj => by
      by_cases hl : j < E.length
      · rw [List.getElem?_append_left hl] at hj; exact .inl hj
      · rw [List.getElem?_append_right (by omega)] at hj
        obtain ⟨q1, q2⟩ := List.getElem?_eq_some_iff.1 hj
        have q3 : j = E.length := by simp at q1; omega
        subst q3
        simp at hj
        exact .inr ⟨rfl, hj.symm⟩
    rcases cs j a hj with p | ⟨p1, p2⟩ <;> rcases cs k b hk with r | ⟨r1, r2⟩
    · exact h.one j k a b p r ha hb e
    · rw [r2] at e; exact absurd e (ne a (List.mem_of_getElem? p) ha)
    · rw [p2] at e; exact absurd e.symm (ne b (List.mem_of_getElem? r) hb)
    · omega
  · have q := h.cn t' ht
    have e1 : cnT t' (E ++ [(n, t, y)]) = cnT t' E + if t = t' then 1 else 0 := by
      unfold cnT
      rw [List.countP_append]
      by_cases e : t = t' <;> simp [e]
    rw [e1]
    show _ ≤ (ex.addT s.T t 1 t').c
    unfold ex.addT ex.updT
    by_cases e : t' = t
    · rw [if_pos e, e, if_pos rfl]
      rw [e] at q
      show _ ≤ (s.T t).c + 1
      omega
    · rw [if_neg e, if_neg (Ne.symm e)]
      omega
/-- A drop. -/
theorem JN.drop {N fr : Nat} {s : ex.St} {su : Nat → Option Nat} {ws : List (Nat × Nat)} {E : List En} (h : JN N fr s su ws E) (k n t y : Nat) (hk : E[k]? = some (n, t, y)) (ht : t ≠ 0) :
    ∃ s', ex.sDrp N s t n = (0, s') ∧ JN N fr s' su ws (E.set k (n, 0, y)) ∧ ∀ u, (s'.T u).i = (s.T u).i := by
  have hm := List.mem_of_getElem? hk
  obtain ⟨l1, l2, l3⟩ := h.lt _ hm
  obtain ⟨h1, h2, h3⟩ := h.held _ hm ht
  have hkl : k < E.length := (List.getElem?_eq_some_iff.1 hk).1
  have hc := h.cn t ht
  have hpos : 1 ≤ cnT t E := by
    unfold cnT
    exact List.countP_pos_iff.2 ⟨_, hm, by simp⟩
  simp only at l1 l2 l3 h1 h2 h3
  have hin : ex.isIn s.T (t : Int) := ⟨by omega, by omega, by rw [Int.toNat_natCast]; exact h1⟩
  refine ⟨⟨ex.upd s.f n (s.f n - 1), ex.addT s.T t (-1)⟩, ?_, ?_, ?_⟩
  · unfold ex.sDrp
    rw [if_pos l1, if_pos hin, Int.toNat_natCast, if_neg (by omega), if_pos h2]
  · have ai : ∀ k, (ex.addT s.T t (-1) k).i = (s.T k).i := fun k => by
      unfold ex.addT ex.updT
      by_cases e : k = t
      · rw [if_pos e, e]
      · rw [if_neg e]
    have cs : ∀ (j : Nat) (a : En), (E.set k (n, 0, y))[j]? = some a → a.2.1 ≠ 0 → E[j]? = some a ∧ j ≠ k := fun j a hj ha => by
      by_cases e : j = k
      · subst e
        rw [List.getElem?_set_self hkl] at hj
        cases hj
        exact absurd rfl ha
      · rw [List.getElem?_set_ne (Ne.symm e)] at hj
        exact ⟨hj, e⟩
    refine ⟨fun e he => ?_, fun e he ht' => ?_, fun j j' a b hj hj' ha hb e => ?_, fun u hu => ?_⟩
    · rcases List.mem_or_eq_of_mem_set he with he | rfl
      · exact h.lt e he
      · exact ⟨l1, by show 0 ≤ 8; omega, l3⟩
    · obtain ⟨j, hj⟩ := List.getElem?_of_mem he
      obtain ⟨g1, g2⟩ := cs j e hj ht'
      obtain ⟨q1, q2, q3⟩ := h.held e (List.mem_of_getElem? g1) ht'
      refine ⟨(ai _).trans q1, ?_, q3⟩
      show ex.upd s.f n (s.f n - 1) e.1 = 1
      unfold ex.upd
      rw [if_neg (fun e' => g2 (h.one j k e (n, t, y) g1 hk ht' ht e'))]
      exact q2
    · exact h.one j j' a b (cs j a hj ha).1 (cs j' b hj' hb).1 ha hb e
    · have q := h.cn u hu
      have e1 : (cnT u (E.set k (n, 0, y)) : Int) = (cnT u E : Int) - if t = u then 1 else 0 := by
        unfold cnT
        rw [List.countP_set hkl]
        have hg : E[k] = (n, t, y) := (List.getElem?_eq_some_iff.1 hk).2
        rw [hg]
        have z : ((0 : Nat) == u) = false := by simp; omega
        by_cases e : t = u
        · subst e
          have := hpos
          unfold cnT at this
          simp [z]
          omega
        · simp [e, z]
      rw [e1]
      show _ ≤ (ex.addT s.T t (-1) u).c
      unfold ex.addT ex.updT
      by_cases e : u = t
      · rw [if_pos e, e, if_pos rfl]
        rw [e] at q
        show _ ≤ (s.T t).c + -1
        omega
      · rw [if_neg e, if_neg (Ne.symm e)]
        omega
  · intro u
    show (ex.addT s.T t (-1) u).i = _
    unfold ex.addT ex.updT
    by_cases e : u = t
    · rw [if_pos e, e]
    · rw [if_neg e]
end Go.Proofs.YtjdamlmoegippaaDoor.pl
