/-
  A pool in memory with its disk, its field and its log side by side: what each one's calls leave of the others. Condition: none.
-/
import Derived.Test.YtjdamlmoegippaaDoorHlLK
import Derived.Test.YtjdamlmoegippaaDoorPlC
import Derived.Test.YtjdamlmoegippaaDoorExV
import Derived.Test.YtjdamlmoegippaaDoorDkPK
namespace Go.Proofs.YtjdamlmoegippaaDoor.hl
open Go.RowKit
theorem LG.wider {S S' : Nat → Prop} {w : World} {g : Nat} {T : List (List Int)} (h : LG S w g T) (hS : ∀ b, S b → S' b) (ho : ∀ b, S' b → 2 ≤ b ∧ b < w.heap.size) : LG S' w g T := by
  obtain ⟨mb, s, f, C, h⟩ := h
  exact ⟨mb, s, f, C, h.wider hS ho⟩
/-- A text summed. -/
def SumP (S : Nat → Prop) (w : World) (g : Nat) (T : List (List Int)) (b : List Int) (e : Ending) (w' : World) : Prop :=
  e = .returned (.agg (bcells (sha b))) ∧ LG (fun q => S q ∨ w.heap.size ≤ q ∧ q < w'.heap.size) w' g (addT T b) ∧ Mods S w w'
set_option maxRecDepth 100000 in
set_option maxHeartbeats 4000000 in
theorem sumY (S : Nat → Prop) (g : Nat) (T : List (List Int)) (b : List Int) (v : Value) (w : World) (h : LG S w g T) (hvS : ∀ q, b ≠ [] → v.ownBlock = some q → ¬ S q) (hT : T.length ≤ 999999) (hG : Glob w) (hb : Byt b) (hlen : b.length ≤ 140737488351232) (hv : Sees w v b) :
    Calls Tryd.prog 23 #[.pointer (some ⟨g, 0, none⟩), v] w (SumP S w g T b) := by
  have z27 := zv27
  obtain ⟨Z27, hZ27⟩ : ∃ Z, Z = bcells (List.replicate 32 0) := ⟨_, rfl⟩
  rw [← hZ27] at z27
  have lk : (sha b).length = 32 := sha_len b hb
  have IS : Hid ((Tryd.prog.info? 24).map (·.size) = some (bcells (sha b)).size) := by show _ = _; rw [i27, bsize, lk]
  have ZS : Hid (Z27.size = (bcells (sha b)).size) := by show _ = _; rw [hZ27, bsize, bsize, lk, List.length_replicate]
  have OS := Lib.hid (bone (sha b))
  have h2 : 1 < w.heap.size := hG.lt
  obtain ⟨wa, hwa⟩ : ∃ wa, wa = w.alloc (.cells Z27 24) := ⟨_, rfl⟩
  have ba : Below w.heap.size w wa := by rw [hwa]; exact (Below.refl _ _).alloc (Nat.le_refl _) _
  have za : wa.heap[w.heap.size]? = some (.cells Z27 24 (0, 0)) := by rw [hwa]; exact heap_alloc_new w _
  have SM := Lib.hid (sum1 v b wa (hv.below ba) (by omega) (hG.below (b := w.heap.size) ba (by omega)))
  have HWA := Lib.hid hwa
  have H2L := Lib.hid h2
  have BA := Lib.hid ba
  have ZA := Lib.hid za
  have HL := Lib.hid h
  have HV := Lib.hid hv
  have HVS := Lib.hid hvS
  have HT := Lib.hid hT
  have HB := Lib.hid hb
  have HLN := Lib.hid hlen
  clear h2 h hv hvS hT hb hlen hZ27 lk hwa ba za hG
  obtain ⟨SC, hSC⟩ : ∃ SC, SC = sha b := ⟨_, rfl⟩
  rw [← hSC] at IS ZS OS SM
  have HSC := Lib.hid hSC
  clear hSC
  go_enter Tryd.func23, Tryd.ntmps23
  go_wp2_with fail
  rw [← HWA.out]
  refine SM.out.mono ?_
  rintro e w1 ⟨rfl, hb1⟩
  have B1 := Lib.hid (BA.out.trans (hb1.mono BA.out.size))
  have Z1 := Lib.hid ((hb1.block _ (blk_lt ZA.out)).trans ZA.out)
  clear hb1
  have zn := heap_alloc_new w1 (.cells Z27 24)
  obtain ⟨w2, hw2⟩ : ∃ w2, w2 = (w1.alloc (.cells Z27 24)).setRow w1.heap.size (bcells SC) := ⟨_, rfl⟩
  have B2 : Hid (Below w.heap.size w w2) := by
    rw [hw2]
    exact (B1.out.alloc B1.out.size _).trans (below_row _ _ B1.out.size)
  have R2 : Hid (w2.heap[w1.heap.size]? = some (.cells (bcells SC) 24 (0, 0))) := by rw [hw2]; exact setRow_heap _ _ _ _ _ _ zn
  have L12 : Hid (w.heap.size < w1.heap.size) := blk_lt Z1.out
  have Z2 : Hid (w2.heap[w.heap.size]? = some (.cells Z27 24 (0, 0))) := by
    rw [hw2, setRow_other _ _ _ _ (Nat.ne_of_lt L12.out), Below.heap_alloc _ _ _ L12.out]
    exact Z1.out
  have HW2 := Lib.hid hw2
  have S2 : Hid (w1.heap.size < w2.heap.size) := blk_lt R2.out
  clear hw2
  have zn' := Lib.hid zn
  clear zn
  have LG2 := Lib.hid (HL.out.below B2.out)
  have IM := Lib.hid (isMadeY S g T w2 LG2.out)
  go_wp2_with (refine wpList_store_row rfl 24 (.tmp 5) (.tmp 7) rfl w1.heap.size (bcells SC) rfl rfl 24 Z27 zn'.out IS.out ZS.out OS.out ?_)
  rw [← HW2.out]
  refine IM.out.mono ?_
  rintro e w' ⟨rfl, rfl⟩
  have KP := Lib.hid (keep S g T b v w2 LG2.out HB.out HLN.out (HV.out.below B2.out) HVS.out HT.out)
  rw [← HSC.out] at KP
  go_wp2_with (refine wpList_load_row rfl 24 (.tmp 5) rfl w1.heap.size rfl 24 (bcells SC) (0, 0) _ R2.out Tryd.underlying24 rfl IS.out ?_)
  refine KP.out.mono ?_
  rintro e w3 ⟨rfl, hlg, hmd⟩
  have own := HL.out.own
  have R3 := Lib.hid ((hmd.block _ (blk_lt R2.out) (fun hs => by have := (own _ hs).2; have := L12.out; omega)).trans R2.out)
  have Z3 := Lib.hid ((hmd.block _ (blk_lt Z2.out) (fun hs => by have := (own _ hs).2; omega)).trans Z2.out)
  have HLG := Lib.hid hlg
  have HMD := Lib.hid hmd
  clear hlg hmd own
  go_wp2_with (first
    | (refine wpList_load_row rfl 24 (.tmp 5) rfl w1.heap.size rfl 24 (bcells SC) (0, 0) _ R3.out Tryd.underlying24 rfl IS.out ?_)
    | (refine wpList_store_row rfl 24 (.tmp 4) (.tmp 14) rfl w.heap.size (bcells SC) rfl rfl 24 Z27 Z3.out IS.out ZS.out OS.out ?_))
  refine bodyPost_ret (v := .agg (bcells SC)) (results_cell_row Tryd.results23 _ _ w.heap.size 24 _ (0, 0) _ rfl (setRow_heap _ _ _ _ _ _ Z3.out) Tryd.underlying24 rfl IS.out) rfl ⟨by rw [HSC.out], ?_, ?_⟩
  · have own := HL.out.own
    have m4 : Mods (fun q => q = w.heap.size) w3 (w3.setRow w.heap.size (bcells SC)) := ⟨rfl, rfl, rfl, by simp, fun j _ hj => setRow_other _ _ _ _ hj⟩
    refine (HLG.out.mods m4 (fun q hq e => ?_)).wider (fun q hq => ?_) (fun q hq => ?_)
    · have e' : q = w.heap.size := e
      have := S2.out
      have := L12.out
      rcases hq with hq | hq
      · have := (own q hq).2
        omega
      · omega
    · have s3 : (w3.setRow w.heap.size (bcells SC)).heap.size = w3.heap.size := by simp
      have := B2.out.size
      rcases hq with hq | hq
      · exact .inl hq
      · exact .inr ⟨by omega, by omega⟩
    · have s3 : (w3.setRow w.heap.size (bcells SC)).heap.size = w3.heap.size := by simp
      have := B2.out.size
      have := HMD.out.size
      have := H2L.out
      rcases hq with hq | hq
      · have := own q hq
        omega
      · omega
  · have m1 : Mods S w w2 := Mods.of_below B2.out
    have m2 : Mods S w w3 := m1.trans HMD.out (fun q e => .inl e)
    exact m2.trans (T := fun q => q = w.heap.size) ⟨rfl, rfl, rfl, by simp, fun j _ hj => setRow_other _ _ _ _ hj⟩ (fun q e => .inr (by have e' : q = w.heap.size := e; omega))
theorem clashNo (g : Nat) (w : World) (c2 : w.cell? ⟨g, 2, none⟩ = some (.bool false)) : Calls Tryd.prog 32 #[.pointer (some ⟨g, 0, none⟩)] w fun e w' => e = .returned (.tuple #[.slice none 0 0, .slice none 0 0, .bool false]) ∧ w = w' := by
  go_enter Tryd.func32, Tryd.ntmps32
  go_wp2_with fail
  go_ret3
  exact ⟨rfl, rfl⟩
theorem clashY0 (S : Nat → Prop) (g : Nat) (T : List (List Int)) (w : World) (h : LG S w g T) (hc : clk sha T = none) : Calls Tryd.prog 32 #[.pointer (some ⟨g, 0, none⟩)] w fun e w' => e = .returned (.tuple #[.slice none 0 0, .slice none 0 0, .bool false]) ∧ w = w' := by
  obtain ⟨mb, s, f, C, h⟩ := h
  have := h.c2
  rw [hc] at this
  exact clashNo g w this
end Go.Proofs.YtjdamlmoegippaaDoor.hl
namespace Go.Proofs.YtjdamlmoegippaaDoor.pl
open Go.RowKit
set_option maxRecDepth 100000 in
theorem sector (gb : Nat) (fr n : Nat) (w : World) (h : w.cell? ⟨gb, 0, none⟩ = some (.int .i64 fr)) (hf : fr + n ≤ 4294967295) : Calls Tryd.prog 28 #[.int .u32 n, .pointer (some ⟨gb, 0, none⟩)] w fun e w' => e = .returned (.int .u32 ((fr + n : Nat) : Int)) ∧ w = w' := by
  have w1 : IntKind.u32.wrap (fr : Int) = (fr : Int) := IntWalk.u32_in _ (by omega)
  have w2 : IntKind.u32.wrap ((fr : Int) + (n : Int)) = ((fr + n : Nat) : Int) := by rw [IntWalk.u32_in _ (by omega)]; omega
  clear hf
  go_enter Tryd.func28, Tryd.ntmps28
  go_wp2
  go_ret
  exact ⟨rfl, rfl⟩
variable {w : World} {p gd gf gb : Nat} {lg : Value} {fr : Int}
theorem PL.c0 (h : PL w p gd gf gb lg fr) : w.cell? ⟨p, 0, none⟩ = some (.pointer (some ⟨gd, 0, none⟩)) := by rw [cell_row h.row]; rfl
theorem PL.c1 (h : PL w p gd gf gb lg fr) : w.cell? ⟨p, 1, none⟩ = some (.pointer (some ⟨gf, 0, none⟩)) := by rw [cell_row h.row]; rfl
theorem PL.c2 (h : PL w p gd gf gb lg fr) : w.cell? ⟨p, 2, none⟩ = some lg := by rw [cell_row h.row]; rfl
theorem PL.c3 (h : PL w p gd gf gb lg fr) : w.cell? ⟨p, 3, none⟩ = some (.func (.func 28) #[] #[.pointer (some ⟨gb, 0, none⟩)]) := by rw [cell_row h.row]; rfl
theorem PL.b0 (h : PL w p gd gf gb lg fr) : w.cell? ⟨gb, 0, none⟩ = some (.int .i64 fr) := by rw [cell_row h.box]; rfl
theorem PL.below {w' : World} (h : PL w p gd gf gb lg fr) (b : Below w.heap.size w w') : PL w' p gd gf gb lg fr := ⟨(b.block _ (blk_lt h.row)).trans h.row, (b.block _ (blk_lt h.box)).trans h.box⟩
theorem PL.mods {w' : World} {S : Nat → Prop} (h : PL w p gd gf gb lg fr) (m : dk.Mods S w w') (h1 : ¬ S p) (h2 : ¬ S gb) : PL w' p gd gf gb lg fr := ⟨(m.block _ (blk_lt h.row) h1).trans h.row, (m.block _ (blk_lt h.box) h2).trans h.box⟩
set_option maxRecDepth 100000 in
theorem made_yes (h : PL w p gd gf gb lg fr) : Calls Tryd.prog 20 #[.pointer (some ⟨p, 0, none⟩)] w fun e w' => e = .returned (.bool true) ∧ w = w' := by
  have c0 := h.c0
  clear h
  go_enter Tryd.func20, Tryd.ntmps20
  go_wp2
  go_ret
  exact ⟨rfl, rfl⟩
theorem field (h : PL w p gd gf gb lg fr) : Calls Tryd.prog 12 #[.pointer (some ⟨p, 0, none⟩)] w fun e w' => e = .returned (.pointer (some ⟨gf, 0, none⟩)) ∧ w = w' := field_at p _ w h.c1
end Go.Proofs.YtjdamlmoegippaaDoor.pl
namespace Go.Proofs.YtjdamlmoegippaaDoor.pl
open Go.RowKit
/-- Where the parts of a pool stand: the pool, its disk, its field, its log; how many sectors, where the first extent stands, how many extents. -/
structure PA where
  p : Nat
  gd : Nat
  sb : Nat
  hb : Nat
  gf : Nat
  rb : Nat
  mb : Nat
  wb : Nat
  gb : Nat
  gl : Nat
  N : Nat
  fr : Nat
  ct : Nat
  B : Nat
  /-- Blocks of bytes that are the caller's own. -/
  q : Nat → Prop
/-- What a disk is. -/
structure DS where
  wv : Value
  su : Nat → Option Nat
  ws : List (Nat × Nat)
  rg : List Value
  c : Int
  pn : Int
  d : Bool
  K : Nat
def DKs (P : Nat → Prop) (w : World) (A : PA) (D : DS) : Prop := dk.pv.DK P w A.gd A.N A.sb A.hb D.wv D.su D.ws D.rg D.c D.pn D.d D.K
def Dts (A : PA) (D : DS) : Nat → Prop := dk.pv.Dt A.gd A.sb A.hb D.wv
structure PW (w : World) (A : PA) (D : DS) (s : ex.St) (S : Nat → Prop) (T : List (List Int)) : Prop where
  pool : PL w A.p A.gd A.gf A.gb (.pointer (some ⟨A.gl, 0, none⟩)) A.fr
  dk : DKs (fun b => ¬ S b ∧ ¬ A.q b) w A D
  fd : ex.FS w A.gf A.rb A.mb A.wb A.ct s
  lg : hl.LG S w A.gl T
  gg : hl.Glob w
  a1 : ∀ k, Dts A D k → A.B ≤ k ∧ ¬ S k ∧ k ≠ A.p ∧ k ≠ A.gb ∧ k ≠ A.gf ∧ k ≠ A.rb ∧ k ≠ A.mb ∧ k ≠ A.wb
  a2 : ∀ k, (k = A.gf ∨ k = A.rb ∨ k = A.mb ∨ k = A.wb) → A.B ≤ k ∧ k < w.heap.size ∧ ¬ S k ∧ k ≠ A.p ∧ k ≠ A.gb
  a3 : ∀ k, (k = A.p ∨ k = A.gb) → A.B ≤ k ∧ ¬ S k
  a4 : ∀ k, S k → A.B ≤ k
  aq : ∀ k, A.q k → A.B ≤ k ∧ k < w.heap.size
  bb : 2 ≤ A.B ∧ A.B ≤ w.heap.size
section
variable {w w' : World} {A : PA} {D D' : DS} {s s' : ex.St} {S : Nat → Prop} {T : List (List Int)}
theorem dkm {Q : Nat → Prop} (m : ex.Mods Q w w') : dk.Mods Q w w' := ⟨m.os, m.tape, m.output, m.size, m.block⟩
theorem hlm {Q : Nat → Prop} (m : dk.Mods Q w w') : hl.Mods Q w w' := ⟨m.os, m.tape, m.output, m.size, m.block⟩
theorem exm {Q : Nat → Prop} (m : dk.Mods Q w w') : ex.Mods Q w w' := ⟨m.os, m.tape, m.output, m.size, m.block⟩
theorem dkh {Q : Nat → Prop} (m : hl.Mods Q w w') : dk.Mods Q w w' := ⟨m.os, m.tape, m.output, m.size, m.block⟩
theorem PW.below (h : PW w A D s S T) (hb : Below w.heap.size w w') : PW w' A D s S T :=
  ⟨h.pool.below hb, dk.pv.DK.below h.dk hb, ex.FD.below h.fd hb, h.lg.below hb, h.gg.below hb (by have := h.gg.lt; omega), h.a1, fun k hk => by have q := h.a2 k hk; have := hb.size; exact ⟨q.1, by omega, q.2.2⟩, h.a3, h.a4, fun k hk => ⟨(h.aq k hk).1, Nat.lt_of_lt_of_le (h.aq k hk).2 hb.size⟩, h.bb.1, Nat.le_trans h.bb.2 hb.size⟩
/-- The disk alone is turned. -/
theorem PW.disk (h : PW w A D s S T) (hd : DKs (fun b => ¬ S b ∧ ¬ A.q b) w' A D') (m : dk.Mods (Dts A D) w w') (an : dk.Anew w D.wv D'.wv) : PW w' A D' s S T := by
  have p1 := h.a3 A.p (.inl rfl)
  have p2 := h.a3 A.gb (.inr rfl)
  refine ⟨h.pool.mods m (fun e => (h.a1 _ e).2.2.1 rfl) (fun e => (h.a1 _ e).2.2.2.1 rfl), hd, ?_, h.lg.mods (hlm m) (fun b hb e => (h.a1 b e).2.1 hb), h.gg.mods (hlm m) (fun b e => Nat.le_trans h.bb.1 (h.a1 b e).1), fun k hk => ?_, fun k hk => ?_, h.a3, h.a4, fun k hk => ⟨(h.aq k hk).1, Nat.lt_of_lt_of_le (h.aq k hk).2 m.size⟩, h.bb.1, Nat.le_trans h.bb.2 m.size⟩
  · exact ex.FD.mods h.fd (exm m) (fun e => (h.a1 _ e).2.2.2.2.1 rfl) (fun e => (h.a1 _ e).2.2.2.2.2.1 rfl) (fun e => (h.a1 _ e).2.2.2.2.2.2.1 rfl) (fun e => (h.a1 _ e).2.2.2.2.2.2.2 rfl)
  · rcases hk with rfl | rfl | rfl | hk
    · exact h.a1 _ (.inl rfl)
    · exact h.a1 _ (.inr (.inl rfl))
    · exact h.a1 _ (.inr (.inr (.inl rfl)))
    · rcases an k hk with h1 | h1
      · exact h.a1 k (.inr (.inr (.inr h1)))
      · have g := h.gg.lt
        have q1 := blk_lt h.pool.row
        have q2 := blk_lt h.pool.box
        have f1 := h.a2 A.gf (.inl rfl)
        have f2 := h.a2 A.rb (.inr (.inl rfl))
        have f3 := h.a2 A.mb (.inr (.inr (.inl rfl)))
        have f4 := h.a2 A.wb (.inr (.inr (.inr rfl)))
        have bb := h.bb
        exact ⟨by omega, fun e => by have := h.lg.own k e; omega, by omega, by omega, by omega, by omega, by omega, by omega⟩
  · have q := h.a2 k hk
    have := m.size
    exact ⟨q.1, by omega, q.2.2⟩
/-- The field alone is turned. -/
theorem PW.field (h : PW w A D s S T) (hf : ex.FS w' A.gf A.rb A.mb A.wb A.ct s') (m : ex.Mods (ex.Ft A.gf A.mb A.wb) w w') : PW w' A D s' S T := by
  have ft : ∀ k, ex.Ft A.gf A.mb A.wb k → k = A.gf ∨ k = A.rb ∨ k = A.mb ∨ k = A.wb := fun k hk => by
    rcases hk with h1 | h1 | h1
    · exact .inl h1
    · exact .inr (.inr (.inl h1))
    · exact .inr (.inr (.inr h1))
  refine ⟨h.pool.mods (dkm m) (fun e => (h.a2 _ (ft _ e)).2.2.2.1 rfl) (fun e => (h.a2 _ (ft _ e)).2.2.2.2 rfl), ?_, hf, h.lg.mods (hlm (dkm m)) (fun b hb e => (h.a2 b (ft b e)).2.2.1 hb), h.gg.mods (hlm (dkm m)) (fun b e => Nat.le_trans h.bb.1 (h.a2 b (ft b e)).1), h.a1, fun k hk => ?_, h.a3, h.a4, fun k hk => ⟨(h.aq k hk).1, Nat.lt_of_lt_of_le (h.aq k hk).2 m.size⟩, h.bb.1, Nat.le_trans h.bb.2 m.size⟩
  · refine dk.pv.DK.to h.dk (dkm m) (fun b hs hd => ?_) (fun b cs _ hc hs => ?_) (fun _ _ h => h)
    · have := h.a1 b hd
      rcases ft b hs with e | e | e | e
      · exact this.2.2.2.2.1 e
      · exact this.2.2.2.2.2.1 e
      · exact this.2.2.2.2.2.2.1 e
      · exact this.2.2.2.2.2.2.2 e
    · rcases hs with rfl | rfl | rfl
      · rw [ex.FD.blk h.fd] at hc; injection hc with hc; injection hc with _ hc; cases hc
      · obtain ⟨es, c, h1⟩ := (ex.FD.row h.fd).map.isMap
        rw [h1] at hc; cases hc
      · obtain ⟨cs', wd, h1, _⟩ := (ex.FD.row h.fd).wds
        rw [h1] at hc; injection hc with hc; injection hc with _ hc; cases hc
  · have q := h.a2 k hk
    have := m.size
    exact ⟨q.1, by omega, q.2.2⟩
end
theorem dt_lt {P : Nat → Prop} {w : World} {A : PA} {D : DS} (h : DKs P w A D) : ∀ k, Dts A D k → k < w.heap.size := fun k hk => by
  obtain ⟨n1, f1, m1, _⟩ := h.sure
  obtain ⟨n2, f2, m2, _⟩ := h.shown
  obtain ⟨vs, r, _⟩ := h.waits
  rcases hk with rfl | rfl | rfl | hk
  · exact blk_lt h.row
  · exact m1.lt
  · exact m2.lt
  · exact (r.lt k hk).1
section
variable {w w' : World} {A : PA} {D D' : DS} {s s' : ex.St} {S : Nat → Prop} {T : List (List Int)}
/-- The log alone is turned, and grows. -/
theorem PW.log {T' : List (List Int)} (h : PW w A D s S T) (hl' : hl.LG (fun q => S q ∨ w.heap.size ≤ q ∧ q < w'.heap.size) w' A.gl T') (m : hl.Mods S w w') : PW w' A D s (fun q => S q ∨ w.heap.size ≤ q ∧ q < w'.heap.size) T' := by
  have q1 := blk_lt h.pool.row
  have q2 := blk_lt h.pool.box
  refine ⟨h.pool.mods (dkh m) (h.a3 _ (.inl rfl)).2 (h.a3 _ (.inr rfl)).2, ?_, ?_, hl', h.gg.mods m (fun b e => (h.lg.own b e).1), fun k hk => ?_, fun k hk => ?_, fun k hk => ?_, fun k hk => ?_, fun k hk => ⟨(h.aq k hk).1, Nat.lt_of_lt_of_le (h.aq k hk).2 m.size⟩, h.bb.1, Nat.le_trans h.bb.2 m.size⟩
  · refine dk.pv.DK.to h.dk (dkh m) (fun b hs hd => (h.a1 b hd).2.1 hs) (fun b _ hp _ hs => hp.1 hs) (fun b hb hp => ⟨fun e => ?_, hp.2⟩)
    rcases e with e | e
    · exact hp.1 e
    · omega
  · exact ex.FD.mods h.fd (exm (dkh m)) (h.a2 _ (.inl rfl)).2.2.1 (h.a2 _ (.inr (.inl rfl))).2.2.1 (h.a2 _ (.inr (.inr (.inl rfl)))).2.2.1 (h.a2 _ (.inr (.inr (.inr rfl)))).2.2.1
  · have := h.a1 k hk
    refine ⟨this.1, fun e => ?_, this.2.2⟩
    rcases e with e | e
    · exact this.2.1 e
    · have := dt_lt h.dk k hk
      omega
  · have q := h.a2 k hk
    have := m.size
    refine ⟨q.1, by omega, fun e => ?_, q.2.2.2⟩
    rcases e with e | e
    · exact q.2.2.1 e
    · omega
  · have := h.a3 k hk
    refine ⟨this.1, fun e => ?_⟩
    rcases e with e | e
    · exact this.2 e
    · rcases hk with rfl | rfl <;> omega
  · rcases hk with e | e
    · exact h.a4 k e
    · have := h.bb; omega
end
end Go.Proofs.YtjdamlmoegippaaDoor.pl
