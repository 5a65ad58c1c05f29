/-
  One thing more behind each of a play's three lists. Condition: none.
-/
import Derived.Test.YtjdamlmoegippaaDoorPlR
namespace Go.Proofs.YtjdamlmoegippaaDoor.pl
open Go.RowKit
theorem PW.nOth52 {w : World} {A : PA} {D : DS} {s : ex.St} {S : Nat → Prop} {T : List (List Int)} {r : Nat} {cs : Array Value} (h : PW w A D s S T) (hr : w.heap[r]? = some (.cells cs 52 (0, 0))) (hS : ¬ S r) : ¬ Oth A D S r := fun hk => by
  rcases hk with hk | hk | hk
  · exact dk.pv.DK.not h.dk hr (by decide) (by decide) hk
  · rcases hk with rfl | rfl | rfl
    · exact row_ne (ex.FD.blk h.fd) hr (by decide) rfl
    · obtain ⟨es, c, h1⟩ := (ex.FD.row h.fd).map.isMap
      rw [hr] at h1; cases h1
    · obtain ⟨cs', wd, h1, _⟩ := (ex.FD.row h.fd).wds
      exact row_ne h1 hr (by decide) rfl
  · exact hS hk
/-- A pool with a play's lists, after some rounds: E the lists, F what was put. -/
structure LS (w wr : World) (A : PA) (lo : Nat) (vl vw vb : Value) (E F : List En) (i m : Nat) (D : DS) (s : ex.St) (S : Nat → Prop) (T : List (List Int)) : Prop where
  pw : PW wr { A with q := fun k => vb.ownBlock = some k } D s S T
  jn : JN 20 5 s D.su D.ws F
  ml : ML wr lo S vl vw vb E
  n : F.length ≤ i
  d : D.d = false ∧ D.pn = -1 ∧ 0 ≤ D.c ∧ D.c ≤ i ∧ D.K ≤ i
  t : T.length ≤ m
  b : Below w.heap.size w wr
section
variable {w wr w' : World} {A : PA} {lo : Nat} {vl vw vb : Value} {E F : List En} {i m : Nat} {D : DS} {s : ex.St} {S : Nat → Prop} {T : List (List Int)}
theorem LS.below (h : LS w wr A lo vl vw vb E F i m D s S T) (hb : Below wr.heap.size wr w') : LS w w' A lo vl vw vb E F i m D s S T :=
  ⟨h.pw.below hb, h.jn, h.ml.below hb, h.n, h.d, h.t, h.b.trans (hb.mono h.b.size)⟩
theorem LS.more {i' m' : Nat} (h : LS w wr A lo vl vw vb E F i m D s S T) (hi : i ≤ i') (hm : m ≤ m') : LS w wr A lo vl vw vb E F i' m' D s S T :=
  ⟨h.pw, h.jn, h.ml, Nat.le_trans h.n hi, ⟨h.d.1, h.d.2.1, h.d.2.2.1, by have := h.d.2.2.2.1; omega, by have := h.d.2.2.2.2; omega⟩, Nat.le_trans h.t hm, h.b⟩
/-- A Put that goes through. -/
theorem LS.put (h : LS w wr A lo vl vw vb E E i m D s S T) (hA : A.ct = 20 ∧ A.fr = 5 ∧ A.N = 25 ∧ A.B = w.heap.size) (t : Int) (b y : Nat) (hv : dk.TX wr (.slice (some ⟨b, 0, none⟩) 512 512) (dk.tx y)) (hy : y < 256) (hvS : ¬ S b) (htk : (ex.sTak 20 s t).1 = 0) (hi : i ≤ 60) (hm : m ≤ 99999) :
    Calls Tryd.prog 7 #[.pointer (some ⟨A.p, 0, none⟩), .int .i64 t, .slice (some ⟨b, 0, none⟩) 512 512] wr fun e w' => ∃ (k : Nat) (D' : DS) (s' : ex.St) (S' : Nat → Prop) (T' : List (List Int)), t = (k : Int) ∧ 1 ≤ k ∧
      e = .returned (.tuple #[.agg (rl (ex.fst s.f 20) (hl.sha (bI y))).toArray, .int .i64 0]) ∧ LS w w' A lo vl vw vb E (E ++ [(ex.fst s.f 20, k, y)]) (i + 1) (m + 1) D' s' S' T' ∧ (∀ q, S' q → S q ∨ wr.heap.size ≤ q) ∧ dk.Mods (Oth A D S) wr w' := by
  have hfd : ex.FS wr A.gf A.rb A.mb A.wb A.ct s := h.pw.fd
  rw [hA.1] at hfd
  obtain ⟨k, hk, h1, h8, hin, hx, hlt, h0, h2⟩ := tak_told hfd htk
  obtain ⟨d1, d2, d3, d4, d5⟩ := h.d
  have ht := h.t
  refine (put_ok h.pw t _ y hv hy (fun q hq => by cases hq; exact hvS) (by show (ex.sTak A.ct s t).1 = 0; rw [hA.1]; exact htk) (ex.fst s.f 20) (by show ex.xTak A.ct s t = _; rw [hA.1]; exact hx) (by show _ < A.ct; rw [hA.1]; exact hlt) d1 d2 d3 (by omega) (by omega) (by show A.fr + A.ct ≤ A.N; rw [hA.1, hA.2.1, hA.2.2.1]; omega) (by omega)).mono fun e w' hq => ?_
  obtain ⟨wv', S', he, hw, hS, hm'⟩ := hq
  have hst : (ex.sTak A.ct s t).2 = ⟨ex.upd s.f (ex.fst s.f 20) (s.f (ex.fst s.f 20) + 1), ex.addT s.T k 1⟩ := by rw [hA.1]; exact h2
  have hw' : PW w' { A with q := fun k => vb.ownBlock = some k } ⟨wv', D.su, D.ws ++ [(A.fr + ex.fst s.f 20, y)], D.rg, D.c + 1, -1, false, D.K + 1⟩ (ex.sTak A.ct s t).2 S' (hl.addT T (bI y)) := hw
  rw [hst] at hw'
  refine ⟨k, _, _, S', _, hk, h1, he, ⟨hw', ?_, h.ml.step h.pw hm' hS, ?_, ⟨rfl, rfl, ?_, ?_, ?_⟩, ?_, ?_⟩, hS, hm'⟩
  · show JN 20 5 _ D.su (D.ws ++ [(A.fr + ex.fst s.f 20, y)]) _
    rw [hA.2.1]
    exact h.jn.put _ k y hlt h8 hy hin h0
  · have := h.n
    rw [List.length_append]
    show E.length + 1 ≤ i + 1
    omega
  · show 0 ≤ D.c + 1
    omega
  · show D.c + 1 ≤ ((i + 1 : Nat) : Int)
    omega
  · show D.K + 1 ≤ i + 1
    omega
  · have := addT_len T (bI y)
    omega
  · have hb := h.pw.fram (w0 := w) (by show Below A.B w wr; rw [hA.2.2.2]; exact h.b) hm' (fun _ h => h)
    have hb' : Below A.B w w' := hb
    rw [hA.2.2.2] at hb'
    exact hb'
/-- A Put that the field refuses. -/
theorem LS.full (h : LS w wr A lo vl vw vb E E i m D s S T) (hA : A.ct = 20 ∧ A.fr = 5 ∧ A.N = 25 ∧ A.B = w.heap.size) (t : Int) (b : Nat) (htk : (ex.sTak 20 s t).1 ≠ 0) :
    Calls Tryd.prog 7 #[.pointer (some ⟨A.p, 0, none⟩), .int .i64 t, .slice (some ⟨b, 0, none⟩) 512 512] wr fun e w' => ∃ z : Int, z ≠ 0 ∧ e = .returned (.tuple #[.agg zr, .int .i64 z]) ∧ LS w w' A lo vl vw vb E E i m D s S T ∧ dk.Mods (Oth A D S) wr w' := by
  refine (put_full h.pw t (some ⟨b, 0, none⟩) 512 (by show (ex.sTak A.ct s t).1 ≠ 0; rw [hA.1]; exact htk)).mono fun e w' hq => ?_
  obtain ⟨he, hw, hm'⟩ := hq
  have he' : e = .returned (.tuple #[.agg zr, .int .i64 (ex.sTak A.ct s t).1]) := he
  have hw' : PW w' { A with q := fun k => vb.ownBlock = some k } D (ex.sTak A.ct s t).2 S T := hw
  rw [hA.1] at he'
  have hs : (ex.sTak A.ct s t).2 = s := by
    rw [hA.1]
    unfold ex.sTak ex.sGet at htk ⊢
    by_cases c : ex.isIn s.T t
    · rw [if_pos c] at htk ⊢
      by_cases d : ex.roomC 20 s.T t.toNat = 0
      · rw [if_pos d] at htk; exact absurd rfl htk
      · rw [if_neg d]
    · rw [if_neg c]
  rw [hs] at hw'
  refine ⟨_, htk, he', ⟨hw', h.jn, h.ml.step h.pw hm' (fun q hq => .inl hq), h.n, h.d, h.t, ?_⟩, hm'⟩
  have hb := h.pw.fram (w0 := w) (by show Below A.B w wr; rw [hA.2.2.2]; exact h.b) hm' (fun _ h => h)
  have hb' : Below A.B w w' := hb
  rw [hA.2.2.2] at hb'
  exact hb'
/-- A Drop of an extent that is held. -/
theorem LS.drop (h : LS w wr A lo vl vw vb E E i m D s S T) (hA : A.ct = 20 ∧ A.fr = 5 ∧ A.N = 25 ∧ A.B = w.heap.size) (k n t y : Nat) (hk : E[k]? = some (n, t, y)) (ht : t ≠ 0) :
    Calls Tryd.prog 15 #[.pointer (some ⟨A.gf, 0, none⟩), .int .i64 t, .int .u32 n] wr fun e w' => ∃ s', e = .returned (.int .i64 0) ∧ LS w w' A lo vl vw vb E (E.set k (n, 0, y)) i m D s' S T ∧ dk.Mods (Oth A D S) wr w' := by
  obtain ⟨s', hs, hj, _⟩ := h.jn.drop k n t y hk ht
  have hlt := (h.jn.lt _ (List.mem_of_getElem? hk)).1
  have hfd : ex.FS wr A.gf A.rb A.mb A.wb A.ct s := h.pw.fd
  have hd := ex.drpS hfd t n (by show n < 4294967296; have : n < 20 := hlt; omega)
  unfold ex.CS at hd
  rw [hA.1, hs] at hd
  refine hd.mono fun e w' hq => ?_
  obtain ⟨he, hf, hm⟩ := hq
  have hf' : ex.FS w' A.gf A.rb A.mb A.wb A.ct s' := by rw [hA.1]; exact hf
  have hm' : dk.Mods (Oth A D S) wr w' := (dkm hm).mono (fun k hk => .inl (.inr (.inl hk)))
  refine ⟨s', he, ⟨h.pw.field hf' hm, hj, h.ml.step h.pw hm' (fun q hq => .inl hq), ?_, h.d, h.t, ?_⟩, hm'⟩
  · rw [List.length_set]; exact h.n
  · have hb := h.pw.fram (w0 := w) (by show Below A.B w wr; rw [hA.2.2.2]; exact h.b) hm' (fun _ h => h)
    have hb' : Below A.B w w' := hb
    rw [hA.2.2.2] at hb'
    exact hb'
theorem log_len (T : List (List Int)) (x : List Int) (m : Nat) (h : T.length ≤ m) : (hl.addT T x).length ≤ m + 1 := by
  have := addT_len T x
  omega
/-- A Get of an extent that is held. -/
theorem LS.get (h : LS w wr A lo vl vw vb E E i m D s S T) (hA : A.ct = 20 ∧ A.fr = 5 ∧ A.N = 25 ∧ A.B = w.heap.size) (k n t y : Nat) (hk : E[k]? = some (n, t, y)) (ht : t ≠ 0) (hm : m ≤ 99999) :
    Calls Tryd.prog 9 #[.pointer (some ⟨A.p, 0, none⟩), .agg (rl n (hl.sha (bI y))).toArray] wr fun e w' => ∃ (q : Nat) (S' : Nat → Prop) (T' : List (List Int)), e = .returned (.tuple #[.slice (some ⟨q, 0, none⟩) 512 512, .int .i64 0]) ∧ dk.TX w' (.slice (some ⟨q, 0, none⟩) 512 512) (dk.tx y) ∧ wr.heap.size ≤ q ∧ ¬ S' q ∧
      LS w w' A lo vl vw vb E E i (m + 1) D s S' T' ∧ (∀ q, S' q → S q ∨ wr.heap.size ≤ q) ∧ dk.Mods (Oth A D S) wr w' := by
  have hmem := List.mem_of_getElem? hk
  obtain ⟨hlt, _, hy⟩ := h.jn.lt _ hmem
  obtain ⟨_, _, hsh⟩ := h.jn.held _ hmem ht
  simp only at hlt hy hsh
  have hT := h.t
  refine (get_any h.pw n (hl.sha (bI y)) (hl.sha_byt _) (hl.sha_len _ (bI_byt hy)) (by show n < A.ct; rw [hA.1]; exact hlt) y (by show pY (dk.shwn D.su D.ws (A.fr + n)) = y; rw [hA.2.1]; exact hsh) hy h.d.1 (by show A.fr + A.ct ≤ A.N; rw [hA.1, hA.2.1, hA.2.2.1]; omega) (by omega)).mono fun e w' hq => ?_
  obtain ⟨q, S', h1, h2, h3, h4, h5, h6, h7⟩ := hq
  rw [if_pos rfl] at h1
  have hm' : dk.Mods (Oth A D S) wr w' := h7.mono (fun k hk => .inl (.inr (.inr hk)))
  refine ⟨q, S', _, h1, h2, h3, h4, ⟨h5, h.jn, h.ml.step h.pw hm' h6, h.n, h.d, log_len T _ m hT, ?_⟩, h6, hm'⟩
  have hb := h.pw.fram (w0 := w) (by show Below A.B w wr; rw [hA.2.2.2]; exact h.b) hm' (fun _ h => h)
  have hb' : Below A.B w w' := hb
  rw [hA.2.2.2] at hb'
  exact hb'
end
end Go.Proofs.YtjdamlmoegippaaDoor.pl
namespace Go.Proofs.YtjdamlmoegippaaDoor.pl
open Go.RowKit
theorem inf26 : (Tryd.prog.info? 26).map (fun i => (i.zero, i.size, i.bytes)) = some (some (.agg zr), 33, 36) := by kernel_rfl
theorem inf3 : (Tryd.prog.info? 3).map (fun i => (i.zero, i.size, i.bytes)) = some (some (.int .i64 0), 1, 8) := by kernel_rfl
theorem inf5 : (Tryd.prog.info? 5).map (fun i => (i.zero, i.size, i.bytes)) = some (some (.int .u8 0), 1, 1) := by kernel_rfl
theorem parts {i? : Option TypeInfo} {z : Option Value} {a b : Nat} (h : i?.map (fun i => (i.zero, i.size, i.bytes)) = some (z, a, b)) : ∃ i, i? = some i ∧ i.zero = z ∧ i.size = a ∧ i.bytes = b := by
  cases i? with
  | none => simp at h
  | some i => simp at h; exact ⟨i, rfl, h.1, h.2.1, h.2.2⟩
section
variable {w : World} {v : Value} {n : Nat} {xs : List Value}
theorem push26 (h : dk.Rw w 26 33 v n xs) (g : Nat) (C : List Value) (hl : C.length = 33) (h1 : ∀ u ∈ C, u.oneCell' = true) (hg : w.heap[g]? = some (.cells C.toArray 26 (0, 0))) (hn : n ≤ 100000) :
    ∃ v' w', (Builtin.append_ #[49, 49] 49 #[v, .slice (some ⟨g, 0, none⟩) 1 1]).run Tryd.prog w = .ok v' w' ∧ dk.Rw w' 26 33 v' (n + 1) (xs ++ C) ∧ dk.Mods (fun k => v.ownBlock = some k) w w' ∧ (v'.ownBlock = v.ownBlock ∨ ∃ k, v'.ownBlock = some k ∧ w.heap.size ≤ k) := by
  obtain ⟨i, hi, hz0, hz1, hz2⟩ := parts inf26
  exact dk.Rw.push Tryd.underlying49 hi hz0 hz1 hz2 (by kernel_rfl) (by decide) h ⟨g, 0, none⟩ 1 1 C (by omega) (fun j u hj => by rw [dk.addr_add, Nat.zero_add, cell_row hg]; simpa using hj) h1 (by unfold maxLen; omega) (by omega) (by omega)
theorem push3 (h : dk.Rw w 3 1 v n xs) (g : Nat) (y : Int) (hg : w.heap[g]? = some (.cells #[.int .i64 y] 3 (0, 0))) (hn : n ≤ 100000) :
    ∃ v' w', (Builtin.append_ #[50, 50] 50 #[v, .slice (some ⟨g, 0, none⟩) 1 1]).run Tryd.prog w = .ok v' w' ∧ dk.Rw w' 3 1 v' (n + 1) (xs ++ [.int .i64 y]) ∧ dk.Mods (fun k => v.ownBlock = some k) w w' ∧ (v'.ownBlock = v.ownBlock ∨ ∃ k, v'.ownBlock = some k ∧ w.heap.size ≤ k) := by
  obtain ⟨i, hi, hz0, hz1, hz2⟩ := parts inf3
  exact dk.Rw.push Tryd.underlying50 hi hz0 hz1 hz2 rfl (by decide) h ⟨g, 0, none⟩ 1 1 [.int .i64 y] rfl (fun j u hj => by rw [dk.addr_add, Nat.zero_add, cell_row hg]; rcases j with _ | j <;> simp at hj ⊢; exact hj) (by simp [Value.oneCell']) (by unfold maxLen; omega) (by omega) (by omega)
theorem push5 (h : dk.Rw w 5 1 v n xs) (g : Nat) (y : Int) (hg : w.heap[g]? = some (.cells #[.int .u8 y] 5 (0, 0))) (hn : n ≤ 100000) :
    ∃ v' w', (Builtin.append_ #[37, 37] 37 #[v, .slice (some ⟨g, 0, none⟩) 1 1]).run Tryd.prog w = .ok v' w' ∧ dk.Rw w' 5 1 v' (n + 1) (xs ++ [.int .u8 y]) ∧ dk.Mods (fun k => v.ownBlock = some k) w w' ∧ (v'.ownBlock = v.ownBlock ∨ ∃ k, v'.ownBlock = some k ∧ w.heap.size ≤ k) := by
  obtain ⟨i, hi, hz0, hz1, hz2⟩ := parts inf5
  exact dk.Rw.push Tryd.underlying37 hi hz0 hz1 hz2 rfl (by decide) h ⟨g, 0, none⟩ 1 1 [.int .u8 y] rfl (fun j u hj => by rw [dk.addr_add, Nat.zero_add, cell_row hg]; rcases j with _ | j <;> simp at hj ⊢; exact hj) (by simp [Value.oneCell']) (by unfold maxLen; omega) (by omega) (by omega)
end
end Go.Proofs.YtjdamlmoegippaaDoor.pl
