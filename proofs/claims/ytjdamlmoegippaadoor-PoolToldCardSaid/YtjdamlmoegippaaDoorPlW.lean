/-
  What the fixed calls of the laws of package casematelaw18 make of a field, a disk and a log. Condition: none.
-/
import Derived.Test.YtjdamlmoegippaaDoorPlG
import Derived.Test.YtjdamlmoegippaaDoorDkPT
namespace Go.Proofs.YtjdamlmoegippaaDoor.dk.pv
open Go.RowKit
theorem SM.old {P : Nat → Prop} {w : World} {f : Lit → Option Value} {su : Nat → Option Nat} (h : SM P w f su) : Go.Proofs.YtjdamlmoegippaaDoor.dk.SM w f su := fun s => by
  rcases h s with h1 | ⟨y, v, h1, h2, h3, h4⟩
  · exact .inl h1
  · exact .inr ⟨y, v, h1, h2, h3.old, h4⟩
theorem WS.old {P : Nat → Prop} {w : World} : ∀ {ws : List (Nat × Nat)} {vs : List Value}, WS P w ws vs → Go.Proofs.YtjdamlmoegippaaDoor.dk.WS w ws vs
  | [], _, h => h
  | (s, y) :: r, _, h => by
    obtain ⟨v, vs', e, h1, h2, h3, h4⟩ := h
    exact ⟨v, vs', e, h1, h2.old, h3, WS.old h4⟩
theorem DK.old {P : Nat → Prop} {w : World} {g N sb hb : Nat} {wv : Value} {su : Nat → Option Nat} {ws : List (Nat × Nat)} {rg : List Value} {c p : Int} {d : Bool} {K : Nat} (h : DK P w g N sb hb wv su ws rg c p d K) : Go.Proofs.YtjdamlmoegippaaDoor.dk.DK w g N sb hb wv su ws rg c p d K := by
  obtain ⟨n1, f1, m1, b1, s1⟩ := h.sure
  obtain ⟨n2, f2, m2, b2, s2⟩ := h.shown
  obtain ⟨vs, r, q⟩ := h.waits
  exact ⟨h.n1, h.n2, h.row, h.len, ⟨n1, f1, m1, b1, s1.old⟩, ⟨n2, f2, m2, b2, s2.old⟩, ⟨vs, r, q.old⟩, h.ne, h.wl⟩
end Go.Proofs.YtjdamlmoegippaaDoor.dk.pv
namespace Go.Proofs.YtjdamlmoegippaaDoor.pl
open Go.RowKit
theorem row_ne {w : World} {a b : Nat} {cs cs' : Array Value} {t t' : TypeId} (h : w.heap[a]? = some (.cells cs t (0, 0))) (h' : w.heap[b]? = some (.cells cs' t' (0, 0))) (ht : t ≠ t') : a ≠ b := fun e => by
  rw [e, h'] at h; injection h with h; injection h with _ h; exact ht h.symm
theorem map_ne {w : World} {a b : Nat} {cs : Array Value} {t : TypeId} {es : Array MapEntry} {c : Nat} (h : w.heap[a]? = some (.map es c)) (h' : w.heap[b]? = some (.cells cs t (0, 0))) : a ≠ b := fun e => by
  rw [e, h'] at h; cases h
def rg0 : List Value := List.replicate 64 (.int .u8 0)
def D0 : DS := ⟨.slice none 0 0, fun _ => none, [], rg0, 0, -1, false, 0⟩
def s0 : ex.St := ⟨fun _ => 0, fun _ => ex.a0⟩
theorem mkPW {w0 w1 w2 w3 : World} {gd sb hb gl p gf gb rb mb wb N fr ct : Nat} (g0 : hl.Glob w0) (hd : dk.pv.DK (fun _ => False) w1 gd N sb hb (.slice none 0 0) (fun _ => none) [] rg0 0 (-1) false 0) (d1 : w0.heap.size ≤ gd) (d2 : w0.heap.size ≤ sb) (d3 : w0.heap.size ≤ hb) (b1 : Below w0.heap.size w0 w1)
    (lg : hl.LG (fun b => w1.heap.size ≤ b ∧ b < w1.heap.size + 2) w2 gl []) (b2 : Below w1.heap.size w1 w2) (pl : PL w3 p gd gf gb (.pointer (some ⟨gl, 0, none⟩)) fr) (fd : ex.FD w3 gf rb mb wb ct (fun _ => 0) (fun _ => ex.a0))
    (hs : w2.heap.size ≤ p ∧ w2.heap.size ≤ gf ∧ w2.heap.size ≤ gb ∧ w2.heap.size ≤ rb ∧ w2.heap.size ≤ mb ∧ w2.heap.size ≤ wb) (b3 : Below w2.heap.size w2 w3) :
    PW w3 ⟨p, gd, sb, hb, gf, rb, mb, wb, gb, gl, N, fr, ct, w0.heap.size, fun _ => False⟩ D0 s0 (fun b => w1.heap.size ≤ b ∧ b < w1.heap.size + 2) [] := by
  have h2 := g0.lt
  have z1 := b1.size
  have z2 := b2.size
  have zw : w1.heap.size + 1 < w2.heap.size := (lg.own (w1.heap.size + 1) ⟨by omega, by omega⟩).2
  have lt := dt_lt (A := ⟨p, gd, sb, hb, gf, rb, mb, wb, gb, gl, N, fr, ct, w0.heap.size, fun _ => False⟩) (D := D0) (P := fun _ => False) (w := w1) hd
  obtain ⟨hp, hgf, hgb, hrb, hmb, hwb⟩ := hs
  obtain ⟨es, c, fm⟩ := fd.row.map.isMap
  obtain ⟨cw, wd, fw, _⟩ := fd.row.wds
  have hdk := (hd.below b2).below b3
  refine ⟨pl, ?_, fd, lg.below b3, ((g0.below b1 (by omega)).below b2 (by omega)).below b3 (by omega), fun k hk => ?_, fun k hk => ?_, fun k hk => ?_, fun k hk => ?_, fun k hk => hk.elim, by show 2 ≤ w0.heap.size; omega, by show w0.heap.size ≤ _; have := b3.size; omega⟩
  · exact dk.pv.DK.to hdk (dk.Mods.refl (fun _ => False) w3) (fun _ h => h.elim) (fun _ _ h => h.elim) (fun _ _ h => h.elim)
  · have hkl := lt k hk
    have hk0 : w0.heap.size ≤ k := by
      rcases hk with rfl | rfl | rfl | hk
      · exact d1
      · exact d2
      · exact d3
      · cases hk
    show w0.heap.size ≤ k ∧ ¬ (w1.heap.size ≤ k ∧ k < w1.heap.size + 2) ∧ k ≠ p ∧ k ≠ gb ∧ k ≠ gf ∧ k ≠ rb ∧ k ≠ mb ∧ k ≠ wb
    omega
  · show w0.heap.size ≤ k ∧ k < w3.heap.size ∧ ¬ (w1.heap.size ≤ k ∧ k < w1.heap.size + 2) ∧ k ≠ p ∧ k ≠ gb
    rcases hk with hk | hk | hk | hk
    · rw [show k = gf from hk]; exact ⟨by omega, blk_lt fd.blk, by omega, row_ne fd.blk pl.row (by decide), row_ne fd.blk pl.box (by decide)⟩
    · rw [show k = rb from hk]; exact ⟨by omega, blk_lt fd.row.row, by omega, row_ne fd.row.row pl.row (by decide), row_ne fd.row.row pl.box (by decide)⟩
    · rw [show k = mb from hk]; exact ⟨by omega, blk_lt fm, by omega, map_ne fm pl.row, map_ne fm pl.box⟩
    · rw [show k = wb from hk]; exact ⟨by omega, blk_lt fw, by omega, row_ne fw pl.row (by decide), row_ne fw pl.box (by decide)⟩
  · show w0.heap.size ≤ k ∧ ¬ (w1.heap.size ≤ k ∧ k < w1.heap.size + 2)
    rcases hk with hk | hk
    · rw [show k = p from hk]; omega
    · rw [show k = gb from hk]; omega
  · show w0.heap.size ≤ k
    have : w1.heap.size ≤ k := hk.1
    omega
/-- A sector of the pool's disk turned. -/
theorem tamper {w : World} {A : PA} {D : DS} {s : ex.St} {S : Nat → Prop} {T : List (List Int)} (h : PW w A D s S T) (k y : Nat) (v : Value) (hk : k < A.N) (hv : dk.SX w v (dk.tx y)) (hy : dk.YB y) (hK : D.K < 1000000) :
    Calls Tryd.prog 16 #[.pointer (some ⟨A.gd, 0, none⟩), .int .u32 k, v] w fun e w' => ∃ wv', e = .returned (.int .i64 0) ∧ PW w' A ⟨wv', dk.putS D.su k y, dk.rest k D.ws, D.rg, D.c, D.pn, D.d, D.K + 1⟩ s S T ∧ dk.Mods (Dts A D) w w' := by
  refine (dk.pv.tamperD h.dk k y v hk hv (fun b hb => ⟨fun e => by have := h.lg.own b e; omega, fun e => by have := h.aq b e; omega⟩) hy hK).mono fun e w' hq => ?_
  obtain ⟨wv', he, hdw⟩ := hq
  exact ⟨wv', he, h.disk (D' := ⟨wv', dk.putS D.su k y, dk.rest k D.ws, D.rg, D.c, D.pn, D.d, D.K + 1⟩) hdw.dk hdw.m hdw.an, hdw.m⟩
set_option maxRecDepth 100000 in
theorem clash_none {w : World} {A : PA} {D : DS} {s : ex.St} {S : Nat → Prop} {T : List (List Int)} (h : PW w A D s S T) (hc : hl.clk hl.sha T = none) : Calls Tryd.prog 13 #[.pointer (some ⟨A.p, 0, none⟩)] w fun e w' => e = .returned (.bool false) ∧ w = w' := by
  have MD := Lib.hid (made_yes h.pool)
  have CN := Lib.hid (hl.clashY0 S A.gl T w h.lg hc)
  have c2 := h.pool.c2
  clear h hc
  go_enter Tryd.func13, Tryd.ntmps13
  go_wp2_with fail
  refine MD.out.mono ?_
  rintro e w' ⟨rfl, rfl⟩
  go_wp2_with fail
  refine CN.out.mono ?_
  rintro e w' ⟨rfl, rfl⟩
  go_wp2_with fail
  go_ret
  exact ⟨rfl, rfl⟩
theorem fullX (y : Nat) (w : World) (hy : y < 256) : Calls Tryd.prog 8 #[.int .u8 y, .int .i64 0] w fun e w' => ∃ b, e = .returned (.slice (some ⟨b, 0, none⟩) 512 512) ∧ dk.TX w' (.slice (some ⟨b, 0, none⟩) 512 512) (dk.tx y) ∧ w.heap.size ≤ b ∧ Below w.heap.size w w' :=
  (dk.fullAny y 0 512 (.inr ⟨by omega, rfl⟩) w).mono fun e w' hq => by
    obtain ⟨b, h1, h2, h3, h4⟩ := hq
    exact ⟨b, h1, ⟨b, by rw [dk.tx_len], by rw [dk.tx_small hy]; exact h2⟩, h3, h4⟩
end Go.Proofs.YtjdamlmoegippaaDoor.pl
namespace Go.Proofs.YtjdamlmoegippaaDoor.pl
open Go.RowKit
set_option maxRecDepth 1000000 in
theorem sha78 : hl.sha (bI 7) ≠ hl.sha (bI 8) := by decide +kernel
end Go.Proofs.YtjdamlmoegippaaDoor.pl
namespace Go.Proofs.YtjdamlmoegippaaDoor.pl
open Go.RowKit
def T1 : Nat → ex.Acc := ex.updT (fun _ => ex.a0) 1 ⟨true, 1, 2, 0⟩
def s1 : ex.St := ⟨fun _ => 0, T1⟩
theorem tak0 : ex.sTak 5 s0 1 = (51, s0) := by
  unfold ex.sTak
  rw [if_neg (fun h => by have := h.2.2; cases this)]
theorem adm0 : ex.sAdm 5 s0 1 1 2 = (0, s1) := by
  unfold ex.sAdm
  rw [if_pos (by unfold ex.mayL; decide)]
  have h1 : ¬ ((s0.T (Int.toNat 1)).i = true) := by decide
  rw [if_neg h1]
  have h2 : ¬ (ex.slack 5 s0.T < 1) := by decide
  rw [if_neg h2]
  rfl
theorem in1 : ex.isIn s1.T 1 := ⟨by decide, by decide, by decide⟩
theorem fst1 : ex.fst s1.f 5 = 0 := by decide
theorem room1 : ex.roomC 5 s1.T 1 = 0 := by
  unfold ex.roomC
  have h1 : ¬ ((s1.T 1).q ≤ (s1.T 1).c) := by decide
  rw [if_neg h1]
  have h2 : ¬ ((s1.T 1).r ≤ (s1.T 1).c ∧ ex.slack 5 s1.T = 0) := by decide
  rw [if_neg h2]
theorem tak1 : (ex.sTak 5 s1 1).1 = 0 := by
  unfold ex.sTak ex.sGet
  rw [if_pos in1, show Int.toNat 1 = 1 from rfl, if_pos room1]
theorem xtak1 : ex.xTak 5 s1 1 = 0 := by
  unfold ex.xTak
  rw [if_pos tak1, fst1]
theorem ne78 : bI 7 ≠ bI 8 := fun e => sha78 (by rw [e])
theorem addA : hl.addT [] (bI 7) = [bI 7] := rfl
theorem addB : hl.addT [bI 7] (bI 7) = [bI 7] := by unfold hl.addT; rw [if_pos (by simp)]
theorem addC : hl.addT [bI 7] (bI 8) = [bI 7, bI 8] := by
  unfold hl.addT
  rw [if_neg (fun h => ne78 (by simp at h; exact h.symm))]
  rfl
theorem clkC : hl.clk hl.sha [bI 7, bI 8] = none := by
  have h1 : (hl.sha (bI 7) == hl.sha (bI 8)) = false := beq_eq_false_iff_ne.2 sha78
  simp [hl.clk, hl.clkR, h1]
end Go.Proofs.YtjdamlmoegippaaDoor.pl
