/-
  A pool beside one list of references: Put by a tenant, Tamper, Get and Clash of it. Condition: none.
-/
import Derived.Test.YtjdamlmoegippaaDoorPlZ
import Derived.Test.YtjdamlmoegippaaDoorHlLF
namespace Go.Proofs.YtjdamlmoegippaaDoor.pl
open Go.RowKit
theorem mem_addT (T : List (List Int)) (x : List Int) : x ∈ hl.addT T x := by
  unfold hl.addT
  by_cases h : x ∈ T
  · rw [if_pos h]; exact h
  · rw [if_neg h]; simp
theorem sub_addT {T : List (List Int)} {x z : List Int} (h : z ∈ T) : z ∈ hl.addT T x := by
  unfold hl.addT
  by_cases h' : x ∈ T
  · rw [if_pos h']; exact h
  · rw [if_neg h']; exact List.mem_append_left _ h
set_option maxRecDepth 100000 in
theorem clash_some {w : World} {A : PA} {D : DS} {s : ex.St} {S : Nat → Prop} {T : List (List Int)} (h : PW w A D s S T) (hc : hl.clk hl.sha T ≠ none) : Calls Tryd.prog 13 #[.pointer (some ⟨A.p, 0, none⟩)] w fun e w' => e = .returned (.bool true) ∧ Below w.heap.size w w' := by
  have MD := Lib.hid (made_yes h.pool)
  obtain ⟨c, hcc⟩ : ∃ c, hl.clk hl.sha T = some c := by
    cases e : hl.clk hl.sha T with
    | none => exact absurd e hc
    | some c => exact ⟨c, rfl⟩
  have h2 := hl.clk_some hl.sha hcc
  obtain ⟨t0, e0⟩ : ∃ t, (hl.ofSum hl.sha T c)[0]? = some t := ⟨_, List.getElem?_eq_getElem (by omega)⟩
  obtain ⟨t1, e1⟩ : ∃ t, (hl.ofSum hl.sha T c)[1]? = some t := ⟨_, List.getElem?_eq_getElem (by omega)⟩
  have CN := Lib.hid (hl.clashY1 S A.gl T w c t0 t1 h.lg hcc e0 e1)
  have c2 := h.pool.c2
  clear h hc hcc h2 e0 e1
  go_enter Tryd.func13, Tryd.ntmps13
  go_wp2_with fail
  refine MD.out.mono ?_
  rintro e w' ⟨rfl, rfl⟩
  go_wp2_with fail
  refine CN.out.mono ?_
  rintro e w' ⟨v0, v1, rfl, _, _, _, _, _, _, hb⟩
  have HB := Lib.hid hb
  clear hb
  go_wp2_with fail
  go_ret
  exact ⟨rfl, HB.out⟩
/-- A pool with a list of references. -/
structure TS (w wr : World) (A : PA) (lo : Nat) (vl : Value) (E : List En) (i m : Nat) (D : DS) (s : ex.St) (S : Nat → Prop) (T : List (List Int)) : Prop where
  pw : PW wr A D s S T
  l : dk.Rw wr 26 33 vl E.length (flr E)
  own : ∀ k, vl.ownBlock = some k → lo ≤ k ∧ ¬ S k
  lt : ∀ e, e ∈ E → e.1 < 20 ∧ e.2.2 < 256
  tt : ∀ e, e ∈ E → bI e.2.2 ∈ T
  d : D.d = false ∧ D.pn = -1 ∧ 0 ≤ D.c ∧ D.c ≤ i ∧ D.K ≤ i
  t : T.length ≤ m
  b : Below w.heap.size w wr
section
variable {w wr w' : World} {A : PA} {lo : Nat} {vl : Value} {E : List En} {i m : Nat} {D : DS} {s : ex.St} {S S' : Nat → Prop} {T : List (List Int)}
theorem TS.below (h : TS w wr A lo vl E i m D s S T) (hb : Below wr.heap.size wr w') : TS w w' A lo vl E i m D s S T :=
  ⟨h.pw.below hb, dk.Rw.mods h.l (dk.Mods.of_below (S := fun _ => False) hb) (fun _ _ => id), h.own, h.lt, h.tt, h.d, h.t, h.b.trans (hb.mono h.b.size)⟩
theorem TS.more {i' m' : Nat} (h : TS w wr A lo vl E i m D s S T) (hi : i ≤ i') (hm : m ≤ m') : TS w wr A lo vl E i' m' D s S T :=
  ⟨h.pw, h.l, h.own, h.lt, h.tt, ⟨h.d.1, h.d.2.1, h.d.2.2.1, by have := h.d.2.2.2.1; omega, by have := h.d.2.2.2.2; omega⟩, Nat.le_trans h.t hm, h.b⟩
theorem TS.row (h : TS w wr A lo vl E i m D s S T) (m' : dk.Mods (Oth A D S) wr w') : dk.Rw w' 26 33 vl E.length (flr E) :=
  dk.Rw.mods h.l m' (fun k hk e => by
    obtain ⟨cs, hc⟩ := Rw.row h.l k hk
    exact h.pw.nOth hc (h.own k hk).2 e)
theorem TS.own' (h : TS w wr A lo vl E i m D s S T) (hS : ∀ q, S' q → S q ∨ wr.heap.size ≤ q) : ∀ k, vl.ownBlock = some k → lo ≤ k ∧ ¬ S' k := fun k hk => ⟨(h.own k hk).1, fun e => by
  rcases hS k e with e | e
  · exact (h.own k hk).2 e
  · have := dk.Rw.lt h.l k hk
    omega⟩
theorem TS.blw (h : TS w wr A lo vl E i m D s S T) (hA : A.B = w.heap.size) (m' : dk.Mods (Oth A D S) wr w') : Below w.heap.size w w' := by
  have hb := h.pw.fram (w0 := w) (by show Below A.B w wr; rw [hA]; exact h.b) m' (fun _ h => h)
  have hb' : Below A.B w w' := hb
  rw [hA] at hb'
  exact hb'
/-- A Put that goes through. -/
theorem TS.put (h : TS w wr A lo vl E i m D s S T) (hA : A.ct = 20 ∧ A.fr = 5 ∧ A.N = 25 ∧ A.B = w.heap.size) (t : Int) (b y : Nat) (hv : dk.TX wr (.slice (some ⟨b, 0, none⟩) 512 512) (dk.tx y)) (hvS : ¬ S b) (htk : (ex.sTak 20 s t).1 = 0) (hi : i ≤ 60) (hm : m ≤ 99999) :
    Calls Tryd.prog 7 #[.pointer (some ⟨A.p, 0, none⟩), .int .i64 t, .slice (some ⟨b, 0, none⟩) 512 512] wr fun e w' => ∃ (n : Nat) (D' : DS) (S' : Nat → Prop) (T' : List (List Int)), n < 20 ∧
      e = .returned (.tuple #[.agg (rl n (hl.sha (bI y))).toArray, .int .i64 0]) ∧ TS w w' A lo vl E (i + 1) (m + 1) D' (ex.sTak 20 s t).2 S' T' ∧ bI y ∈ T' ∧ (∀ q, S' q → S q ∨ wr.heap.size ≤ q) ∧ dk.Mods (Oth A D S) wr w' := by
  have hfd : ex.FS wr A.gf A.rb A.mb A.wb A.ct s := h.pw.fd
  rw [hA.1] at hfd
  obtain ⟨k, hk, h1, h8, hin, hx, hlt, h0, h2⟩ := tak_told hfd htk
  obtain ⟨d1, d2, d3, d4, d5⟩ := h.d
  have ht := h.t
  refine (put_ok h.pw t _ y hv (dk.yb y) (fun q hq => by cases hq; exact hvS) (by show (ex.sTak A.ct s t).1 = 0; rw [hA.1]; exact htk) (ex.fst s.f 20) (by show ex.xTak A.ct s t = _; rw [hA.1]; exact hx) (by show _ < A.ct; rw [hA.1]; exact hlt) d1 d2 d3 (by omega) (by omega) (by show A.fr + A.ct ≤ A.N; rw [hA.1, hA.2.1, hA.2.2.1]; omega) (by omega)).mono fun e w' hq => ?_
  obtain ⟨wv', S', he, hw, hS, hm'⟩ := hq
  rw [hA.1] at hw
  refine ⟨ex.fst s.f 20, _, S', _, hlt, he, ⟨hw, h.row hm', h.own' hS, h.lt, fun e he => sub_addT (h.tt e he), ⟨rfl, rfl, ?_, ?_, ?_⟩, ?_, h.blw hA.2.2.2 hm'⟩, mem_addT _ _, hS, hm'⟩
  · show 0 ≤ D.c + 1
    omega
  · show D.c + 1 ≤ ((i + 1 : Nat) : Int)
    omega
  · show D.K + 1 ≤ i + 1
    omega
  · have := addT_len T (bI y)
    omega
/-- A reference more. -/
theorem TS.addL {v' : Value} (h : TS w wr A lo vl E i m D s S T) (hA : A.B = w.heap.size) (hlo : lo ≤ wr.heap.size ∧ A.B ≤ lo) (n t y : Nat) (Cl : List Value) (hc : Cl = rl n (hl.sha (bI y))) (hn : n < 20) (hy : y < 256) (hT : bI y ∈ T) (hr : dk.Rw w' 26 33 v' (E.length + 1) (flr E ++ Cl)) (hm : dk.Mods (fun k => vl.ownBlock = some k) wr w') (ho : v'.ownBlock = vl.ownBlock ∨ ∃ k, v'.ownBlock = some k ∧ wr.heap.size ≤ k) :
    TS w w' A lo v' (E ++ [(n, t, y)]) i m D s S T := by
  rw [hc] at hr
  have hQ : ∀ k, vl.ownBlock = some k → A.B ≤ k ∧ ¬ S k ∧ ∃ cs, wr.heap[k]? = some (.cells cs 26 (0, 0)) := fun k hk => ⟨by have := (h.own k hk).1; omega, (h.own k hk).2, Rw.row h.l k hk⟩
  refine ⟨h.pw.rows26 _ hm hQ, ?_, fun k hk => ?_, fun e he => ?_, fun e he => ?_, h.d, h.t, dk.Mods.below h.b hm h.b.size (fun k hk => by have := (hQ k hk).1; omega)⟩
  · rw [List.length_append, flr_push]
    exact hr
  · rcases ho with ho | ⟨k', hk', h1⟩
    · exact h.own k (ho.symm.trans hk)
    · rw [hk'] at hk
      cases hk
      exact ⟨by omega, fun e => by have := h.pw.lg.own _ e; omega⟩
  · rcases List.mem_append.1 he with he | he
    · exact h.lt e he
    · obtain rfl := List.mem_singleton.1 he
      exact ⟨hn, hy⟩
  · rcases List.mem_append.1 he with he | he
    · exact h.tt e he
    · obtain rfl := List.mem_singleton.1 he
      exact hT
/-- A sector turned. -/
theorem TS.tamper (h : TS w wr A lo vl E i m D s S T) (hA : A.ct = 20 ∧ A.fr = 5 ∧ A.N = 25 ∧ A.B = w.heap.size) (k y : Nat) (v : Value) (hk : k < 25) (hv : dk.SX wr v (dk.tx y)) (hi : i ≤ 99999) :
    Calls Tryd.prog 16 #[.pointer (some ⟨A.gd, 0, none⟩), .int .u32 k, v] wr fun e w' => ∃ D', e = .returned (.int .i64 0) ∧ TS w w' A lo vl E (i + 1) m D' s S T ∧ wr.heap.size ≤ w'.heap.size := by
  obtain ⟨d1, d2, d3, d4, d5⟩ := h.d
  refine (pl.tamper h.pw k y v (by rw [hA.2.2.1]; exact hk) hv (dk.yb y) (by omega)).mono fun e w' hq => ?_
  obtain ⟨wv', he, hw, hm⟩ := hq
  have hm' : dk.Mods (Oth A D S) wr w' := hm.mono (fun k hk => .inl (.inl hk))
  refine ⟨_, he, ⟨hw, h.row hm', h.own, h.lt, h.tt, ⟨d1, d2, d3, ?_, ?_⟩, h.t, h.blw hA.2.2.2 hm'⟩, hm.size⟩
  · show D.c ≤ ((i + 1 : Nat) : Int)
    omega
  · show D.K + 1 ≤ i + 1
    omega
/-- A Get. -/
theorem TS.get (h : TS w wr A lo vl E i m D s S T) (hA : A.ct = 20 ∧ A.fr = 5 ∧ A.N = 25 ∧ A.B = w.heap.size) (k n t y : Nat) (hk : E[k]? = some (n, t, y)) (hm : m ≤ 99999) :
    ∃ y' : Nat, Calls Tryd.prog 9 #[.pointer (some ⟨A.p, 0, none⟩), .agg (rl n (hl.sha (bI y))).toArray] wr fun e w' => ∃ (q : Nat) (S' : Nat → Prop) (T' : List (List Int)), e = .returned (if hl.sha (bI y') = hl.sha (bI y) then .tuple #[.slice (some ⟨q, 0, none⟩) 512 512, .int .i64 0] else .tuple #[.slice none 0 0, .int .i64 40]) ∧ dk.TX w' (.slice (some ⟨q, 0, none⟩) 512 512) (dk.tx y') ∧
      TS w w' A lo vl E i (m + 1) D s S' T' ∧ bI y' ∈ T' ∧ wr.heap.size ≤ w'.heap.size := by
  have hmem := List.mem_of_getElem? hk
  obtain ⟨hlt, hy⟩ := h.lt _ hmem
  simp only at hlt hy
  have hT := h.t
  refine ⟨pY (dk.shwn D.su D.ws (A.fr + n)), ?_⟩
  refine (get_any h.pw n (hl.sha (bI y)) (hl.sha_byt _) (hl.sha_len _ (bI_byt hy)) (by show n < A.ct; rw [hA.1]; exact hlt) _ rfl (dk.yb _) h.d.1 (by show A.fr + A.ct ≤ A.N; rw [hA.1, hA.2.1, hA.2.2.1]; omega) (by omega)).mono fun e w' hq => ?_
  obtain ⟨q, S', h1, h2, h3, h4, h5, h6, h7⟩ := hq
  have hm' : dk.Mods (Oth A D S) wr w' := h7.mono (fun k hk => .inl (.inr (.inr hk)))
  exact ⟨q, S', _, h1, h2, ⟨h5, h.row hm', h.own' h6, h.lt, fun e he => sub_addT (h.tt e he), h.d, log_len T _ m hT, h.blw hA.2.2.2 hm'⟩, mem_addT _ _, h7.size⟩
end
/-- The field after some Puts of tenant 3. -/
def sK : Nat → ex.St
  | 0 => sB 3
  | k + 1 => (ex.sTak 20 (sK k) 3).2
end Go.Proofs.YtjdamlmoegippaaDoor.pl
