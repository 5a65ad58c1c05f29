/-
  What a play of puts reads as; masks; Fail, Charge and Slack of a pool's parts; Put in one statement: it goes through, or nothing of the field is changed. Condition: the pool stands in memory with its parts.
-/
import Derived.Test.YtjdamlmoegippaaDoorPlI
import Derived.Test.YtjdamlmoegippaaDoorPlG
import Derived.Test.YtjdamlmoegippaaDoorExV
import Derived.Test.YtjdamlmoegippaaDoorDkPK
import Derived.Test.YtjdamlmoegippaaDoorDkDR
namespace Go.Proofs.YtjdamlmoegippaaDoor.pl
open Go.RowKit
/-- What the first tenants may. -/
def tB : Nat → Nat → ex.Acc
  | 0 => fun _ => ex.a0
  | k + 1 => ex.updT (tB k) (k + 1) ⟨true, (k + 1 : Nat), (4 * (k + 1) : Nat), 0⟩
def sB (k : Nat) : ex.St := ⟨fun _ => 0, tB k⟩
theorem admB (k : Nat) (h : k < 3) : ex.sAdm 20 (sB k) (k + 1 : Nat) (k + 1 : Nat) (4 * (k + 1) : Nat) = (0, sB (k + 1)) := by
  obtain rfl | rfl | rfl : k = 0 ∨ k = 1 ∨ k = 2 := by omega
  all_goals
    unfold ex.sAdm
    rw [if_pos (by unfold ex.mayL; decide), if_neg (by decide), if_neg (by decide)]
    rfl
/-- A pool as begin leaves it. -/
def BegP (w : World) (e : Ending) (w' : World) : Prop :=
  ∃ (A : PA) (S : Nat → Prop), e = .returned (.tuple #[.pointer (some ⟨A.gd, 0, none⟩), .pointer (some ⟨A.p, 0, none⟩), .bool true]) ∧ PW w' A D0 (sB 3) S [] ∧ (A.ct = 20 ∧ A.fr = 5 ∧ A.N = 25 ∧ A.B = w.heap.size) ∧ Below w.heap.size w w'
set_option maxRecDepth 100000 in
set_option maxHeartbeats 8000000 in
theorem begin14 (w : World) (hG : hl.Glob w) : Calls Tryd.prog 14 #[] w (BegP w) := by
  have HG := Lib.hid hG
  have ND : Hid (Calls Tryd.prog 29 #[.int .i64 25] w (dk.pv.NewDP (fun _ => False) w 25)) := dk.pv.newD 25 (by omega) (by omega) w
  clear hG
  go_enter Tryd.func14, Tryd.ntmps14
  go_wp2_with fail
  refine ND.out.mono ?_
  rintro e w1 ⟨gd, sb, hb, rfl, hdk, d1, d2, d3, hb1⟩
  have D1 := Lib.hid hdk
  have DD := Lib.hid (⟨d1, d2, d3⟩ : w.heap.size ≤ gd ∧ w.heap.size ≤ sb ∧ w.heap.size ≤ hb)
  have B1 := Lib.hid hb1
  clear hdk d1 d2 d3 hb1 ND
  have NL : Hid (Calls Tryd.prog 30 #[] w1 (hl.NewLP w1)) := hl.newL w1 (by have := HG.out.lt; have := B1.out.size; omega)
  go_wp2_with fail
  refine NL.out.mono ?_
  rintro e w2 ⟨gl, rfl, hlg, _, hb2⟩
  have L2 := Lib.hid hlg
  have B2 := Lib.hid hb2
  clear hlg hb2 NL
  have NP : Hid (Calls Tryd.prog 10 #[.pointer (some ⟨gd, 0, none⟩), .int .i64 5, .int .i64 20, .pointer (some ⟨gl, 0, none⟩)] w2 (NewPP w2 gd 20 (.pointer (some ⟨gl, 0, none⟩)) 5)) := new_ok w2 (D1.out.below B2.out).old 5 20 (some ⟨gl, 0, none⟩) (by omega) (by omega) (by omega)
  go_wp2_with fail
  refine NP.out.mono ?_
  rintro e w3 ⟨p, gf, gb, rb, mb, wb, rfl, hpl, hfd, hs3, hb3⟩
  have H3 := Lib.hid (mkPW HG.out D1.out DD.out.1 DD.out.2.1 DD.out.2.2 B1.out L2.out B2.out hpl hfd hs3 hb3)
  have B3 : Hid (Below w.heap.size w w3) := (B1.out.trans (B2.out.mono B1.out.size)).trans (hb3.mono (Nat.le_trans B1.out.size B2.out.size))
  obtain ⟨S3, hS3⟩ : ∃ S3 : Nat → Prop, S3 = fun b => w1.heap.size ≤ b ∧ b < w1.heap.size + 2 := ⟨_, rfl⟩
  rw [← hS3] at H3
  obtain ⟨A, hA⟩ : ∃ A : PA, A = ⟨p, gd, sb, hb, gf, rb, mb, wb, gb, gl, 25, 5, 20, w.heap.size, fun _ => False⟩ := ⟨_, rfl⟩
  have AP : Hid (p = A.p) := by rw [hA]; rfl
  have AD : Hid (gd = A.gd) := by rw [hA]; rfl
  have AF : Hid (gf = A.gf) := by rw [hA]; rfl
  have AC : Hid (A.ct = 20 ∧ A.fr = 5 ∧ A.N = 25 ∧ A.B = w.heap.size) := by rw [hA]; exact ⟨rfl, rfl, rfl, rfl⟩
  rw [← hA] at H3
  clear hpl hfd hs3 hb3 hA hS3 D1 DD B1 L2 B2 NP HG
  go_wp2_with fail
  go_loopg [7] 3 (fun r vi wr => ∃ k : Nat, r + k = 3 ∧ vi = .int .i64 ((k + 1 : Nat) : Int) ∧ PW wr A D0 (sB k) S3 [] ∧ Below w.heap.size w wr)
  case atStart => exact ⟨0, by omega, rfl, H3.out, B3.out⟩
  case round =>
    clear H3 B3
    obtain ⟨k, hr, rfl, hh, hb⟩ := hrel
    have HR := Lib.hid hr
    have H := Lib.hid hh
    have B := Lib.hid hb
    clear hr hh hb
    by_cases hk : k < 3
    · have hk4 : ((k + 1 : Nat) : Int) < 4 := by omega
      have FLD : Hid (Calls Tryd.prog 12 #[.pointer (some ⟨p, 0, none⟩)] wr fun e w' => e = .returned (.pointer (some ⟨gf, 0, none⟩)) ∧ wr = w') := by
        rw [AP.out, AF.out]
        exact field H.out.pool
      have AM : Hid (Calls Tryd.prog 31 #[.pointer (some ⟨gf, 0, none⟩), .int .i64 ((k + 1 : Nat) : Int), .int .i64 ((k + 1 : Nat) : Int), .int .i64 ((4 * (k + 1) : Nat) : Int)] wr fun e w' => e = .returned (.int .i64 0) ∧ ex.FS w' A.gf A.rb A.mb A.wb A.ct (sB (k + 1)) ∧ ex.Mods (ex.Ft A.gf A.mb A.wb) wr w') := by
        have hq := ex.admS H.out.fd ((k + 1 : Nat) : Int) ((k + 1 : Nat) : Int) ((4 * (k + 1) : Nat) : Int)
        unfold ex.CS at hq
        rw [AC.out.1, admB k hk] at hq
        rw [AF.out, AC.out.1]
        exact hq
      obtain ⟨v, hv⟩ : ∃ v : Int, v = ((k + 1 : Nat) : Int) := ⟨_, rfl⟩
      have hv4 : ((4 * (k + 1) : Nat) : Int) = 4 * v := by omega
      rw [hv4] at AM
      rw [← hv] at AM hk4
      have HV := Lib.hid hv
      have HK := Lib.hid hk
      have hv0 : 1 ≤ v := by omega
      try rw [← hv]
      clear hv hv4 hk
      go_wp2_with fail
      refine FLD.out.mono ?_
      rintro e w' ⟨rfl, rfl⟩
      go_wp2_with fail
      refine AM.out.mono ?_
      rintro e w4 ⟨rfl, hf4, hm4⟩
      have H4 := Lib.hid (H.out.field hf4 hm4)
      have B4 := Lib.hid (AC.out.2.2.2 ▸ H.out.fram (by rw [AC.out.2.2.2]; exact B.out) (dkm hm4) (fun _ h => .inr (.inl h)) : Below w.heap.size w w4)
      clear hf4 hm4 FLD AM
      go_wp2_with fail
      go_roundg (3 - (k + 1))
      case measure => have := HR.out; have := HK.out; omega
      case rel => exact ⟨k + 1, by have := HK.out; omega, by have := HV.out; go_num, H4.out, B4.out⟩
    · obtain rfl : k = 3 := by have := HR.out; omega
      clear hk
      go_wp2_with fail
      go_ret3
      exact ⟨A, S3, by show Ending.returned (.tuple #[.pointer (some ⟨gd, 0, none⟩), .pointer (some ⟨p, 0, none⟩), .bool true]) = _; rw [← AP.out, ← AD.out], H.out, AC.out, B.out⟩
end Go.Proofs.YtjdamlmoegippaaDoor.pl
namespace Go.Proofs.YtjdamlmoegippaaDoor.pl
open Go.RowKit
/-- What a Take that went through did. -/
theorem tak_told {w : World} {g rb mb wb N : Nat} {s : ex.St} {t : Int} (h : ex.FS w g rb mb wb N s) (htk : (ex.sTak N s t).1 = 0) :
    ∃ n : Nat, t = n ∧ 1 ≤ n ∧ n ≤ 8 ∧ (s.T n).i = true ∧ ex.xTak N s t = ex.fst s.f N ∧ ex.fst s.f N < N ∧ s.f (ex.fst s.f N) = 0 ∧ (ex.sTak N s t).2 = ⟨ex.upd s.f (ex.fst s.f N) (s.f (ex.fst s.f N) + 1), ex.addT s.T n 1⟩ := by
  have hx : ex.xTak N s t = ex.fst s.f N := by unfold ex.xTak; rw [if_pos htk]
  by_cases hi : ex.isIn s.T t
  · have e : ex.sTak N s t = ex.sGet N s t.toNat (ex.fst s.f N) := if_pos hi
    obtain ⟨h1, h8, hT⟩ := hi
    have e2 : t = (t.toNat : Nat) := by omega
    by_cases hr : ex.roomC N s.T t.toNat = 0
    · have e3 : ex.sGet N s t.toNat (ex.fst s.f N) = (0, ⟨ex.upd s.f (ex.fst s.f N) (s.f (ex.fst s.f N) + 1), ex.addT s.T t.toNat 1⟩) := if_pos hr
      obtain ⟨_, _, hc⟩ := ex.roomC_room h t.toNat (by omega) (by omega) hr
      obtain ⟨f1, f2, f3⟩ := ex.fst_spec s.f N
      have hl : ex.fst s.f N < N := by
        rcases Nat.lt_or_ge (ex.fst s.f N) N with h | h
        · exact h
        · have := ex.cnt_full (f := s.f) N (fun j hj => f2 j (by omega))
          omega
      exact ⟨t.toNat, e2, by omega, by omega, hT, hx, hl, f3 hl, by rw [e, e3]⟩
    · have e3 : ex.sGet N s t.toNat (ex.fst s.f N) = (ex.roomC N s.T t.toNat, s) := if_neg hr
      rw [e, e3] at htk
      exact absurd htk hr
  · have e : ex.sTak N s t = (51, s) := if_neg hi
    rw [e] at htk
    exact absurd htk (by show ¬ (51 : Int) = 0; decide)
end Go.Proofs.YtjdamlmoegippaaDoor.pl
namespace Go.Proofs.YtjdamlmoegippaaDoor.pl
open Go.ChangeShapes Go.WideShapes Go.ChangeAt Go.RowKit Go.Deep
theorem c3 : Tryd.prog.cellsOf 3 = 1 := by kernel_rfl
theorem c5 : Tryd.prog.cellsOf 5 = 1 := by kernel_rfl
theorem c52 : Tryd.prog.cellsOf 52 = 5 := by kernel_rfl
/-- The cells of an op. -/
def OpV (vs : List Value) : Prop :=
  ∃ (k t a n : Int) (y : Nat), vs = [.int .i64 k, .int .i64 t, .int .i64 a, .int .i64 n, .int .u8 y] ∧ y < 256 ∧ (-9223372036854775808 ≤ t ∧ t ≤ 9223372036854775807) ∧ (-9223372036854775808 ≤ a ∧ a ≤ 9223372036854775807)
/-- A slice of ops. -/
def OS (w : World) (x : Option Addr) (l : Nat) : Prop := l ≤ maxLen ∧ ∀ i, i < l → ∃ (k t a n : Int) (y b o : Nat), x = some ⟨b, o, none⟩ ∧ b < w.heap.size ∧ y < 256 ∧ (-9223372036854775808 ≤ t ∧ t ≤ 9223372036854775807) ∧ (-9223372036854775808 ≤ a ∧ a ≤ 9223372036854775807) ∧
  w.cell? ⟨b, o + i * 5, none⟩ = some (.int .i64 k) ∧ w.cell? ⟨b, o + i * 5 + 1, none⟩ = some (.int .i64 t) ∧ w.cell? ⟨b, o + i * 5 + 2, none⟩ = some (.int .i64 a) ∧ w.cell? ⟨b, o + i * 5 + 3, none⟩ = some (.int .i64 n) ∧ w.cell? ⟨b, o + i * 5 + 4, none⟩ = some (.int .u8 (y : Int))
section
variable {H : Type} {enc : TypeId × Value → H} {w : World} {base : Nat} {sp : Nat → Bool} {held : Bool} {n : Nat} {x : DataW H × List MemPlace}
set_option maxRecDepth 100000 in
theorem op_cells {cs : List Value} {fuel : Nat} (hf : DataW.trod enc Tryd.prog w base sp held fuel 52 cs = some x) : OpV cs := by
  obtain ⟨xs, n, _, _, hl, hlen, hg⟩ := DataW.trod_struct Tryd.underlying52 hf
  rw [c52] at hl
  match cs, hl with
  | [v0, v1, v2, v3, v4], _ =>
    match xs, hlen with
    | [y0, y1, y2, y3, y4], _ =>
      have g0 : DataW.trod enc Tryd.prog w base sp held n 3 [v0] = some y0 := by simpa [c3] using hg 0 _ rfl
      have g1 : DataW.trod enc Tryd.prog w base sp held n 3 [v1] = some y1 := by simpa [c3] using hg 1 _ rfl
      have g2 : DataW.trod enc Tryd.prog w base sp held n 3 [v2] = some y2 := by simpa [c3] using hg 2 _ rfl
      have g3 : DataW.trod enc Tryd.prog w base sp held n 3 [v3] = some y3 := by simpa [c3] using hg 3 _ rfl
      have g4 : DataW.trod enc Tryd.prog w base sp held n 5 [v4] = some y4 := by simpa [c5] using hg 4 _ rfl
      obtain ⟨z0, e0, _, _⟩ := DataW.trod_int Tryd.underlying3 g0
      obtain ⟨z1, e1, _, w1⟩ := DataW.trod_int Tryd.underlying3 g1
      obtain ⟨z2, e2, _, w2⟩ := DataW.trod_int Tryd.underlying3 g2
      obtain ⟨z3, e3, _, w3⟩ := DataW.trod_int Tryd.underlying3 g3
      obtain ⟨z4, e4, _, w4⟩ := DataW.trod_int Tryd.underlying5 g4
      simp only [List.cons.injEq, and_true] at e0 e1 e2 e3 e4
      have b1 := bounds_i64 w1
      have b2 := bounds_i64 w2
      have b4 := bounds_u8 w4
      obtain ⟨y, rfl⟩ : ∃ y : Nat, z4 = y := ⟨z4.toNat, by omega⟩
      exact ⟨z0, z1, z2, z3, y, by rw [e0, e1, e2, e3, e4], by omega, b1, b2⟩
end
set_option maxRecDepth 100000 in
theorem open_os {H : Type} {enc : TypeId × Value → H} {w : World} {r : Reach} {b0 base : Nat} {v : Value} {d : DataW H} {ps : List MemPlace}
    (hval : Value.okWide Tryd.prog w r b0 46 v) (hd : DataW.Trod enc Tryd.prog w base (fun _ => true) true 46 v d ps) : ∃ (x : Option Addr) (l c : Nat), v = .slice x l c ∧ OS w x l := by
  obtain ⟨fuel, hf⟩ := hd
  obtain ⟨x', l', k', rfl⟩ := okWide_slice Tryd.underlying46 hval
  refine ⟨x', l', k', rfl, ?_⟩
  rcases Go.Deep.open_slice Tryd.underlying46 hf with ⟨hc, _⟩ | ⟨a, len, cap, m, n, D, Pl, hc, _, hl, hm, hmm, hx, hi⟩
  · simp [Value.cells] at hc
    obtain ⟨rfl, rfl, rfl⟩ := hc
    exact ⟨Nat.zero_le _, fun i h => by omega⟩
  · simp [Value.cells] at hc
    obtain ⟨rfl, rfl, rfl⟩ := hc
    rw [if_pos rfl] at hmm
    refine ⟨by omega, fun i hil => ?_⟩
    obtain ⟨cs', h1, h2⟩ := hi i (by omega)
    rw [c52] at h1
    obtain ⟨k, t, at', n', y, rfl, hy, ht, ha⟩ := op_cells h2
    obtain ⟨_, hcl, hat⟩ := World.cells?_some h1
    have g : ∀ (j : Nat) (u : Value), j < 5 → ([.int .i64 k, .int .i64 t, .int .i64 at', .int .i64 n', .int .u8 y] : List Value)[j]? = some u → w.cell? (a.add (i * 5 + j)) = some u := fun j u hj hu => by
      have h6 := hat j hj
      rw [hu] at h6
      rw [← Go.Deep.add_add, h6]
    have g0 := g 0 _ (by omega) rfl
    have g1 := g 1 _ (by omega) rfl
    have g2 := g 2 _ (by omega) rfl
    have g3 := g 3 _ (by omega) rfl
    have g4 := g 4 _ (by omega) rfl
    obtain ⟨cs0, p1, p2⟩ := hi 0 (by omega)
    rw [c52] at p1
    obtain ⟨_, _, _, _, _, rfl, _, _, _⟩ := op_cells p2
    obtain ⟨_, _, hat0⟩ := World.cells?_some p1
    have q0 := hat0 0 (by omega)
    rw [Go.Deep.add_add] at q0
    obtain ⟨b, o, spot⟩ := a
    have hspot : spot = none := by simpa [Addr.add] using World.cell?_spot q0
    subst hspot
    rw [dk.addr_add, ← Nat.add_assoc] at g0 g1 g2 g3 g4
    exact ⟨k, t, at', n', y, b, o, rfl, World.block_lt_of_cell? w _ g0, hy, ht, ha, g0, g1, g2, g3, g4⟩
theorem OS.below {w w' : World} {x : Option Addr} {l : Nat} (h : OS w x l) (hb : Below w.heap.size w w') : OS w' x l := ⟨h.1, fun i hi => by
  obtain ⟨k, t, a, n, y, b, o, e, h1, h2, h3, h4, g0, g1, g2, g3, g4⟩ := h.2 i hi
  exact ⟨k, t, a, n, y, b, o, e, Nat.lt_of_lt_of_le h1 hb.size, h2, h3, h4, (hb.cell h1).trans g0, (hb.cell h1).trans g1, (hb.cell h1).trans g2, (hb.cell h1).trans g3, (hb.cell h1).trans g4⟩⟩
section
variable {w : World} {A : PA} {D : DS} {s : ex.St} {S : Nat → Prop} {T : List (List Int)}
theorem addT_len (T : List (List Int)) (x : List Int) : (hl.addT T x).length ≤ T.length + 1 := by
  unfold hl.addT
  split <;> simp
end
end Go.Proofs.YtjdamlmoegippaaDoor.pl
