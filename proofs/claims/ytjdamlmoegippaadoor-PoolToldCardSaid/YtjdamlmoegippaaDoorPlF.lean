/-
  Contract of pool.Put, where it goes through, and where the field tells an error. Condition: the pool stands in memory with its parts.
-/
import Derived.Test.YtjdamlmoegippaaDoorPlE
namespace Go.Proofs.YtjdamlmoegippaaDoor.pl
open Go.RowKit
theorem fold_set (off : Nat) : ∀ (xs : List Value) (k : Nat) (A : List Value), off + k + xs.length ≤ A.length →
    ((xs.zipIdx k).foldl (fun cs p => cs.setIfInBounds (off + p.2) p.1) A.toArray) = (A.take (off + k) ++ xs ++ A.drop (off + k + xs.length)).toArray
  | [], k, A, _ => by simp
  | x :: xs, k, A, h => by
    simp only [List.length_cons] at h
    rw [List.zipIdx_cons, List.foldl_cons]
    simp only [List.setIfInBounds_toArray]
    rw [fold_set off xs (k + 1) (A.set (off + k) x) (by rw [List.length_set]; omega)]
    congr 1
    rw [List.take_set, List.drop_set, if_pos (by omega), ← Nat.add_assoc, List.take_succ_eq_append_getElem (by omega)]
    rw [List.set_append_right _ _ (by simp; omega)]
    simp [Nat.min_eq_left (show off + k ≤ A.length by omega), show off + k + 1 + xs.length = off + k + (xs.length + 1) by omega]
theorem fill_cons (place : Nat → Option (Nat × Nat)) (A : List Value) (i off n : Nat) (v : Value) (rest : List (Nat × Value)) (hp : place i = some (off, n)) (hn : v.cells.size = n) (hf : off + n ≤ A.length) :
    Instr.fill place A.toArray ((i, v) :: rest) = Instr.fill place (A.take off ++ v.cells.toList ++ A.drop (off + n)).toArray rest := by
  have h := fold_set off v.cells.toList 0 A (by simpa [hn] using hf)
  simp only [Nat.add_zero, Array.length_toList, hn] at h
  have h2 : v.cells.zipIdx.foldl (fun cs (x : Value × Nat) => cs.setIfInBounds (off + x.2) x.1) A.toArray = (A.take off ++ v.cells.toList ++ A.drop (off + n)).toArray := by
    rw [← h, ← Array.foldl_toList, Array.toList_zipIdx]
  show (match place i with
    | none => none
    | some (off, size) => if v.cells.size ≠ size || off + v.cells.size > A.toArray.size then none else Instr.fill place (v.cells.zipIdx.foldl (fun cs (c, j) => cs.setIfInBounds (off + j) c) A.toArray) rest) = _
  rw [hp]
  simp only [hn]
  rw [if_neg (by simp; omega)]
  exact congrArg (fun x => Instr.fill place x rest) h2
theorem run_build_struct (t : TypeId) (zc : List Value) (places : List (Nat × Nat)) (hz : (Tryd.prog.info? t).map (·.zero) = some (some (.agg zc.toArray))) (hu : Tryd.prog.underlying t = some (.struct (Tryd.prog.fieldsOf t)))
    (hp : (Tryd.prog.fieldsOf t).toList.mapM (fun f => (Tryd.prog.info? f.type).map fun i => (f.offset, i.size)) = some places) (parts : Array (Nat × Value)) (cells : List Value) (hf : Instr.fill (places.toArray[·]?) zc.toArray parts.toList = some cells.toArray) (w : World) :
    (Instr.build t parts).run Tryd.prog w = .ok (.agg cells.toArray) w := by
  refine run_build w t parts _ ?_
  unfold Program.built
  cases hit : Tryd.prog.info? t with
  | none => simp [hit] at hz
  | some it =>
    have hz' : it.zero = some (.agg zc.toArray) := by simpa [hit] using hz
    simp only [hu, hz', hp]
    exact hf
/-- A reference: where, and the sum. -/
def rl (n : Nat) (z : List Int) : List Value := .int .u32 (n : Int) :: z.map (Value.int .u8)
theorem zr_rl : zr = (rl 0 (List.replicate 32 0)).toArray := by kernel_rfl
theorem rl_len (n : Nat) {z : List Int} (h : z.length = 32) : (rl n z).length = 33 := by simp [rl, h]
theorem irl (n : Nat) {z : List Int} (h : z.length = 32) : (Tryd.prog.info? 26).map (·.size) = some (rl n z).toArray.size := by
  rw [List.size_toArray, rl_len n h]
  kernel_rfl
theorem orl (n : Nat) (z : List Int) : (rl n z).toArray.all (·.oneCell') = true := by simp [rl, Value.oneCell']
set_option maxRecDepth 100000 in
theorem brl (n : Nat) {z : List Int} (h : z.length = 32) (w : World) : (Instr.build 26 #[(0, .int .u32 (n : Int)), (1, .agg (hl.bcells z))]).run Tryd.prog w = .ok (.agg (rl n z).toArray) w := by
  refine run_build_struct 26 (rl 0 (List.replicate 32 0)) [(0, 1), (1, 32)] (by kernel_rfl) (by kernel_rfl) (by kernel_rfl) _ _ ?_ w
  have hz : (rl 0 (List.replicate 32 0)).length = 33 := rl_len 0 (by simp)
  have hb : (hl.bcells z) = (z.map (Value.int .u8)).toArray := rfl
  rw [hb]
  show Instr.fill _ _ [(0, Value.int .u32 (n : Int)), (1, .agg (z.map (Value.int .u8)).toArray)] = some (Value.int .u32 (n : Int) :: z.map (Value.int .u8)).toArray
  generalize rl 0 (List.replicate 32 0) = Z at *
  have lA : (z.map (Value.int .u8)).length = 32 := by simp [h]
  generalize z.map (Value.int .u8) = A at *
  rw [fill_cons _ _ 0 0 1 _ _ rfl rfl (by omega)]
  have s1 : ((Z.take 0 ++ (Value.int IntKind.u32 (n : Int)).cells.toList) ++ Z.drop (0 + 1)) = [Value.int .u32 (n : Int)] ++ Z.drop 1 := by simp [Value.cells]
  rw [s1, fill_cons _ _ 1 1 32 _ _ rfl (by simp [Value.cells, lA]) (by simp [hz])]
  have s2 : ((([Value.int .u32 (n : Int)] ++ Z.drop 1).take 1 ++ (Value.agg A.toArray).cells.toList) ++ ([Value.int .u32 (n : Int)] ++ Z.drop 1).drop (1 + 32)) = Value.int .u32 (n : Int) :: A := by
    simp [Value.cells, hz]
  rw [s2]
  rfl
theorem wpList_build2_runD {ops : Array Oper} {rest : List Oper} {o : Oper} {a : Act} {w : World} {Q : Exit → Act → World → Prop} (hgd : o.guard = none) (t : TypeId) (i j : Nat) (x y : Operand)
    (ho : o.op = .build t #[(i, x), (j, y)]) {u1 u2 v : Value} (hx : a.eval x = u1) (hy : a.eval y = u2)
    (hr : (Instr.build t #[(i, u1), (j, u2)]).run Tryd.prog w = .ok v w) (h : wpList Tryd.prog ops Q rest (a.put o.dst v) w) : wpList Tryd.prog ops Q (o :: rest) a w := by
  refine wpList_plain hgd fun K hK => ?_
  unfold Oper.wp execOp
  simp only [ho, Sem.run_bind, Sem.run_pure, Result.andThen_ok, List.map_toArray, List.map_cons, List.map_nil, hx, hy, hr]
  exact hK _ _ h
/-- A block that is the caller's own is turned. -/
theorem PW.other {w w' : World} {A : PA} {D : DS} {s : ex.St} {S : Nat → Prop} {T : List (List Int)} {r : Nat} {cs : Array Value} (h : PW w A D s S T) (m : dk.Mods (fun k => k = r) w w') (hr : w.heap[r]? = some (.cells cs 26 (0, 0))) (hS : ¬ S r) (h2 : 2 ≤ r) : PW w' A D s S T := by
  have nd : ¬ Dts A D r := dk.pv.DK.not h.dk hr (by decide) (by decide)
  have ne : ∀ (k : Nat) (cs' : Array Value) (t : TypeId), w.heap[k]? = some (.cells cs' t (0, 0)) → t ≠ 26 → k ≠ r := fun k cs' t hk ht e => by
    rw [e, hr] at hk; injection hk with hk; injection hk with _ hk; exact ht hk.symm
  refine ⟨h.pool.mods m (ne _ _ _ h.pool.row (by decide)) (ne _ _ _ h.pool.box (by decide)), ?_, ?_, h.lg.mods (hlm m) (fun b hb e => hS (e ▸ hb)), h.gg.mods (hlm m) (fun b e => by omega), h.a1, fun k hk => ?_, h.a3, h.a4, fun k hk => ⟨(h.aq k hk).1, Nat.lt_of_lt_of_le (h.aq k hk).2 m.size⟩, h.bb.1, Nat.le_trans h.bb.2 m.size⟩
  · refine dk.pv.DK.to h.dk m (fun b e hd => nd (e ▸ hd)) (fun b cs' _ hc e => ?_) (fun _ _ h => h)
    exact ne _ _ _ hc (by decide) e
  · refine ex.FD.mods h.fd (exm m) (ne _ _ _ (ex.FD.blk h.fd) (by decide)) (ne _ _ _ (ex.FD.row h.fd).row (by decide)) (fun e => ?_) (fun e => ?_)
    · obtain ⟨es, c, h1⟩ := (ex.FD.row h.fd).map.isMap
      rw [e, hr] at h1; cases h1
    · obtain ⟨cs', wd, h1, _⟩ := (ex.FD.row h.fd).wds
      exact ne _ _ _ h1 (by decide) e
  · have q := h.a2 k hk
    have := m.size
    exact ⟨q.1, by omega, q.2.2⟩
/-- What a pool's calls may turn. -/
def Oth (A : PA) (D : DS) (S : Nat → Prop) : Nat → Prop := fun k => Dts A D k ∨ ex.Ft A.gf A.mb A.wb k ∨ S k
theorem PW.oth {w : World} {A : PA} {D : DS} {s : ex.St} {S : Nat → Prop} {T : List (List Int)} (h : PW w A D s S T) : ∀ k, Oth A D S k → A.B ≤ k := fun k hk => by
  rcases hk with hk | hk | hk
  · exact (h.a1 k hk).1
  · rcases hk with e | e | e
    · exact (h.a2 k (.inl e)).1
    · exact (h.a2 k (.inr (.inr (.inl e)))).1
    · exact (h.a2 k (.inr (.inr (.inr e)))).1
  · exact h.a4 k hk
def bI (y : Nat) : List Int := (dk.tx y).map fun n : Nat => (n : Int)
theorem bI_len (y : Nat) : (bI y).length = 512 := by unfold bI; rw [List.length_map, dk.tx_len]
theorem bI_byt {y : Nat} {p : Prop} (_h : p) : hl.Byt (bI y) := fun x hx => by
  unfold bI at hx
  rw [List.mem_map] at hx
  obtain ⟨n, hn, rfl⟩ := hx
  have := dk.tx_byte y n hn
  omega
theorem map_at (xs : List Nat) (i : Nat) (h : i < xs.length) : (xs.map (fun (n : Nat) => Value.int .u8 (n : Int))).toArray[i]? = some (.int .u8 (hl.nth (xs.map fun n : Nat => (n : Int)) i)) := by
  simp [hl.nth, List.getD, h]
theorem modsRow (w : World) (r : Nat) (C : Array Value) : dk.Mods (fun k => k = r) w (w.setRow r C) :=
  ⟨rfl, rfl, rfl, by simp [World.setRow], fun k _ hk => setRow_other w r k C hk⟩
theorem tx_sees {w : World} {v : Value} {y : Nat} {p : Prop} (h : dk.TX w v (dk.tx y)) (hy : p) : hl.Sees w v (bI y) := by
  obtain ⟨b, rfl, h1⟩ := h
  have hl' : (bI y).length = 512 := bI_len y
  refine ⟨bI_byt hy, .inr (.inr ⟨b, 0, 512, by rw [hl', dk.tx_len], fun e => by rw [e] at hl'; simp at hl', by omega, by decide, fun i hi => ?_⟩)⟩
  rw [hl'] at hi
  rw [cell_row h1, Nat.zero_add]
  exact map_at (dk.tx y) i (by rw [dk.tx_len]; exact hi)
theorem ft_bytes {w : World} {A : PA} {D : DS} {s : ex.St} {S : Nat → Prop} {T : List (List Int)} (h : PW w A D s S T) : ∀ b cs, w.heap[b]? = some (.cells cs 5 (0, 0)) → ¬ ex.Ft A.gf A.mb A.wb b := fun b cs hc hs => by
  rcases hs with rfl | rfl | rfl
  · rw [ex.FD.blk h.fd] at hc; injection hc with hc; injection hc with _ hc; cases hc
  · obtain ⟨es, c, h1⟩ := (ex.FD.row h.fd).map.isMap
    rw [h1] at hc; cases hc
  · obtain ⟨cs', wd, h1, _⟩ := (ex.FD.row h.fd).wds
    rw [h1] at hc; injection hc with hc; injection hc with _ hc; cases hc
/-- A pool behind a Put that went through. -/
def PutP (w : World) (A : PA) (D : DS) (s' : ex.St) (S : Nat → Prop) (T : List (List Int)) (n y : Nat) (e : Ending) (w' : World) : Prop :=
  ∃ (wv' : Value) (S' : Nat → Prop), e = .returned (.tuple #[.agg (rl n (hl.sha (bI y))).toArray, .int .i64 0]) ∧
    PW w' A ⟨wv', D.su, D.ws ++ [(A.fr + n, y)], D.rg, D.c + 1, -1, false, D.K + 1⟩ s' S' (hl.addT T (bI y)) ∧ (∀ q, S' q → S q ∨ w.heap.size ≤ q) ∧ dk.Mods (Oth A D S) w w'
set_option maxRecDepth 100000 in
set_option maxHeartbeats 8000000 in
theorem put_ok {w : World} {A : PA} {D : DS} {s : ex.St} {S : Nat → Prop} {T : List (List Int)} (h : PW w A D s S T) (t : Int) (v : Value) (y : Nat) (hv : dk.TX w v (dk.tx y)) (hy : dk.YB y) (hvS : ∀ b, v.ownBlock = some b → ¬ S b) (htk : (ex.sTak A.ct s t).1 = 0) (n : Nat) (hn : ex.xTak A.ct s t = n) (hnc : n < A.ct)
    (hd : D.d = false) (hp : D.pn = -1) (hc : 0 ≤ D.c) (hc2 : D.c ≤ 1000000) (hK : D.K < 1000000) (hN : A.fr + A.ct ≤ A.N) (hT : T.length ≤ 999999) :
    Calls Tryd.prog 7 #[.pointer (some ⟨A.p, 0, none⟩), .int .i64 t, v] w (PutP w A D (ex.sTak A.ct s t).2 S T n y) := by
  have hN2 : A.N ≤ 65536 := h.dk.n2
  have hlsum : (hl.sha (bI y)).length = 32 := hl.sha_len _ (bI_byt hy)
  obtain ⟨vb, hvb, hvrow⟩ := hv
  rw [dk.tx_len] at hvb
  subst hvb
  have hz := z26
  have IZ0 := i26
  have OZ := Lib.hid o26
  generalize zr = Z at hz IZ0 OZ
  have IZ := Lib.hid IZ0
  obtain ⟨W0, hW0⟩ : ∃ W0, W0 = w.alloc (.cells Z 26) := ⟨_, rfl⟩
  have b0 : Below w.heap.size w W0 := by rw [hW0]; exact (Below.refl _ _).alloc (Nat.le_refl _) _
  have G0 : Hid (W0.heap[w.heap.size]? = some (.cells Z 26 (0, 0))) := by show _ = _; rw [hW0]; exact heap_alloc_new w _
  have h2w : 2 ≤ w.heap.size := by have := h.gg.lt; omega
  have H0 := Lib.hid (h.below b0)
  have V0 : Hid (dk.TX W0 (.slice (some ⟨vb, 0, none⟩) 512 512) (dk.tx y)) := dk.TX.below ⟨vb, by rw [dk.tx_len], hvrow⟩ b0
  have NS : Hid (¬ S w.heap.size) := fun e => by have := h.lg.own _ e; omega
  have NV : Hid (¬ S vb) := hvS vb rfl
  have FTN : Hid (¬ ex.Ft A.gf A.mb A.wb w.heap.size) := fun e => by
    have a := h.a2 w.heap.size
    rcases e with e | e | e
    · have := (a (.inl e)).2.1; omega
    · have := (a (.inr (.inr (.inl e)))).2.1; omega
    · have := (a (.inr (.inr (.inr e)))).2.1; omega
  have DTN : Hid (¬ Dts A D w.heap.size) := fun e => by have := dt_lt h.dk _ e; omega
  have BE := Lib.hid b0
  have HW0 := Lib.hid hW0
  have TK : Hid (Calls Tryd.prog 21 #[.pointer (some ⟨A.gf, 0, none⟩), .int .i64 t] W0 (ex.TS W0 A.gf A.rb A.mb A.wb A.ct s t)) := ex.takS H0.out.fd t
  have MD := Lib.hid (made_yes H0.out.pool)
  have c1 := H0.out.pool.c1
  have BR := Lib.hid (brl n hlsum)
  have IC := Lib.hid (irl n hlsum)
  have OC := Lib.hid (orl n (hl.sha (bI y)))
  obtain ⟨C, hC⟩ : ∃ C, C = (rl n (hl.sha (bI y))).toArray := ⟨_, rfl⟩
  have PPe : Hid (∀ (e : Ending) (w' : World), (∃ (wv' : Value) (S' : Nat → Prop), e = .returned (.tuple #[.agg C, .int .i64 0]) ∧ PW w' A ⟨wv', D.su, D.ws ++ [(A.fr + n, y)], D.rg, D.c + 1, -1, false, D.K + 1⟩ (ex.sTak A.ct s t).2 S' (hl.addT T (bI y)) ∧ (∀ q, S' q → S q ∨ w.heap.size ≤ q) ∧ dk.Mods (Oth A D S) w w') → PutP w A D (ex.sTak A.ct s t).2 S T n y e w') := fun e w' hh => by
    unfold PutP; rw [← hC]; exact hh
  rw [← hC] at BR IC OC
  have IZC : Hid (Z.size = C.size) := Option.some.inj (IZ.out.symm.trans IC.out)
  obtain ⟨PP, hPP⟩ : ∃ PP, PP = PutP w A D (ex.sTak A.ct s t).2 S T n y := ⟨_, rfl⟩
  rw [← hPP] at PPe ⊢
  have HTK := Lib.hid htk
  have HN := Lib.hid hn
  have HY := Lib.hid hy
  have HD := Lib.hid hd
  have HPN := Lib.hid hp
  have HCC : Hid (0 ≤ D.c ∧ D.c ≤ 1000000) := ⟨hc, hc2⟩
  have HK := Lib.hid hK
  have HFN : Hid (A.fr + n < A.N) := by show _ < _; omega
  have HF2 : Hid (A.fr + n ≤ 4294967295) := by show _ ≤ _; omega
  have HT := Lib.hid hT
  have H2 := Lib.hid h2w
  have HLS := Lib.hid hlsum
  clear hW0 b0 h hvrow hvS htk hn hnc hd hp hc hc2 hK hN hN2 hT h2w hlsum hy hC hPP
  go_enter Tryd.func7, Tryd.ntmps7
  go_upto_region 1 with (fail)
  rw [← HW0.out]
  clear hz
  go_wp2_with fail
  refine MD.out.mono ?_
  rintro e w' ⟨rfl, rfl⟩
  go_wp2_with fail
  refine TK.out.mono ?_
  rintro e w3 ⟨rfl, hf3, hm3⟩
  rw [HTK.out, HN.out]
  have H3 := Lib.hid (H0.out.field hf3 hm3)
  have V3 := Lib.hid (dk.TX.mods V0.out (dkm hm3) (ft_bytes H0.out))
  have G3 := Lib.hid ((hm3.block _ (blk_lt G0.out) FTN.out).trans G0.out)
  have M3 : Hid (dk.Mods (Oth A D S) w w3) := (dk.Mods.of_below BE.out).trans (dkm hm3) (fun b hb => .inl (.inr (.inl hb)))
  have Z3 : Hid (w.heap.size < w3.heap.size) := blk_lt G3.out
  have PLM : Hid (∀ W, dk.Mods (Dts A D) w3 W → PL W A.p A.gd A.gf A.gb (.pointer (some ⟨A.gl, 0, none⟩)) A.fr) := fun W m => H3.out.pool.mods m (fun e => (H3.out.a1 _ e).2.2.1 rfl) (fun e => (H3.out.a1 _ e).2.2.2.1 rfl)
  have WRT : Hid (∀ W, PW W A D (ex.sTak A.ct s t).2 S T → dk.TX W (.slice (some ⟨vb, 0, none⟩) 512 512) (dk.tx y) → Calls Tryd.prog 22 #[.pointer (some ⟨A.gd, 0, none⟩), .int .u32 ((A.fr + n : Nat) : Int), .slice (some ⟨vb, 0, none⟩) 512 512] W fun e w' => ∃ wv', e = .returned (.int .i64 0) ∧ PW w' A ⟨wv', D.su, D.ws ++ [(A.fr + n, y)], D.rg, D.c + 1, -1, false, D.K + 1⟩ (ex.sTak A.ct s t).2 S T ∧ dk.Mods (Dts A D) W w') := fun W hh hv => by
    have hdk := hh.dk
    unfold DKs at hdk
    rw [HD.out] at hdk
    have hw := dk.pv.writeD_ok hdk (A.fr + n) y (.slice (some ⟨vb, 0, none⟩) 512 512) HFN.out hv.sx5 (fun b hb => ⟨fun e => by have := hh.lg.own b e; omega, fun e => by have := hh.aq b e; omega⟩) HY.out HCC.out.1 HCC.out.2 (.inl HPN.out) (by rw [HPN.out]; decide) HK.out
    refine hw.mono fun e w' hq => ?_
    obtain ⟨wv', he, hdw⟩ := hq
    rw [HPN.out] at hdw
    exact ⟨wv', he, hh.disk (D' := ⟨wv', D.su, D.ws ++ [(A.fr + n, y)], D.rg, D.c + 1, -1, false, D.K + 1⟩) hdw.dk hdw.m hdw.an, hdw.m⟩
  clear hf3 hm3 G0 H0 V0 TK MD c1 BE FTN
  go_upto_region 8 with (fail)
  refine wp_region_held_drew (S := fun W => dk.Mods (Dts A D) w3 W) (by kernel_rfl) (dk.Mods.of_below (Below.refl _ _).drew) (fun hS => ?_)
  have qH := H3.out.below (Below.refl _ _).drew
  have qV := V3.out.below (Below.refl _ _).drew
  generalize w3.drew = Ws at hS qH qV ⊢
  have H := Lib.hid qH
  have V := Lib.hid qV
  clear qH qV H3 V3
  refine' wpAnyH_take (i := 0) ?h1x0k ?hsx0k ?hfx0k ?hrx0k ?hQx0k (Or.inl ⟨?hwx0k, ?hyx0k⟩) hS ?restx0k
  case h1x0k => (simp only [List.getElem?_toArray, List.getElem?_cons_zero]; rfl)
  case hsx0k | hfx0k | hrx0k => kernel_rfl
  case hQx0k => exact fun _ _ _ h => h
  case hwx0k => rfl
  case hyx0k =>
    intro W hW
    go_simp
    try with_reducible rfl
  simp only [Act.put, List.setIfInBounds_toArray, List.set_cons_succ, List.set_cons_zero]
  refine' wpAnyH_take (i := 4) ?h1x4k ?hsx4k ?hfx4k ?hrx4k ?hQx4k (Or.inl ⟨?hwx4k, ?hyx4k⟩) hS ?restx4k
  case h1x4k => (simp only [List.getElem?_toArray, List.getElem?_cons_succ, List.getElem?_cons_zero]; rfl)
  case hsx4k | hfx4k | hrx4k => kernel_rfl
  case hQx4k => exact fun _ _ _ h => h
  case hwx4k => rfl
  case hyx4k =>
    intro W hW
    go_simp
    try with_reducible rfl
  simp only [Act.put, List.setIfInBounds_toArray, List.set_cons_succ, List.set_cons_zero]
  refine' wpAnyH_take (i := 8) ?h1x8k ?hsx8k ?hfx8k ?hrx8k ?hQx8k (Or.inl ⟨?hwx8k, ?hyx8k⟩) hS ?restx8k
  case h1x8k => (simp only [List.getElem?_toArray, List.getElem?_cons_succ, List.getElem?_cons_zero]; rfl)
  case hsx8k | hfx8k | hrx8k => kernel_rfl
  case hQx8k => exact fun _ _ _ h => h
  case hwx8k => rfl
  case hyx8k =>
    intro W hW
    go_simp
    try with_reducible rfl
  simp only [Act.put, List.setIfInBounds_toArray, List.set_cons_succ, List.set_cons_zero]
  refine' wpAnyH_take (i := 10) ?h1x10k ?hsx10k ?hfx10k ?hrx10k ?hQx10k (Or.inl ⟨?hwx10k, ?hyx10k⟩) hS ?restx10k
  case h1x10k => (simp only [List.getElem?_toArray, List.getElem?_cons_succ, List.getElem?_cons_zero]; rfl)
  case hsx10k | hfx10k | hrx10k => kernel_rfl
  case hQx10k => exact fun _ _ _ h => h
  case hwx10k => rfl
  case hyx10k =>
    intro W hW
    go_simp
    try with_reducible rfl
  simp only [Act.put, List.setIfInBounds_toArray, List.set_cons_succ, List.set_cons_zero]
  refine' wpAnyH_take (i := 1) ?h1x1k ?hsx1k ?hfx1k ?hrx1k ?hQx1k (Or.inl ⟨?hwx1k, ?hyx1k⟩) hS ?restx1k
  case h1x1k => (simp only [List.getElem?_toArray, List.getElem?_cons_succ, List.getElem?_cons_zero]; rfl)
  case hsx1k | hfx1k | hrx1k => kernel_rfl
  case hQx1k => exact fun _ _ _ h => h
  case hwx1k => rfl
  case hyx1k =>
    intro W hW
    go_simp
    try with_reducible rfl
  simp only [Act.put, List.setIfInBounds_toArray, List.set_cons_succ, List.set_cons_zero]
  refine' wpAnyH_take (i := 5) ?h1x5k ?hsx5k ?hfx5k ?hrx5k ?hQx5k (Or.inl ⟨?hwx5k, ?hyx5k⟩) hS ?restx5k
  case h1x5k => (simp only [List.getElem?_toArray, List.getElem?_cons_succ, List.getElem?_cons_zero]; rfl)
  case hsx5k | hfx5k | hrx5k => kernel_rfl
  case hQx5k => exact fun _ _ _ h => h
  case hwx5k => rfl
  case hyx5k =>
    intro W hW
    go_simp
    try with_reducible rfl
  simp only [Act.put, List.setIfInBounds_toArray, List.set_cons_succ, List.set_cons_zero]
  refine' wpAnyH_take (i := 2) ?h1x2k ?hsx2k ?hfx2k ?hrx2k ?hQx2k (Or.inl ⟨?hwx2k, ?hyx2k⟩) hS ?restx2k
  case h1x2k => (simp only [List.getElem?_toArray, List.getElem?_cons_succ, List.getElem?_cons_zero]; rfl)
  case hsx2k | hfx2k | hrx2k => kernel_rfl
  case hQx2k => exact fun _ _ _ h => h
  case hwx2k => rfl
  case hyx2k =>
    intro W hW
    go_simp
    try with_reducible rfl
  simp only [Act.put, List.setIfInBounds_toArray, List.set_cons_succ, List.set_cons_zero]
  refine' wpAnyH_take (i := 6) ?h1x6k ?hsx6k ?hfx6k ?hrx6k ?hQx6k (Or.inl ⟨?hwx6k, ?hyx6k⟩) hS ?restx6k
  case h1x6k => (simp only [List.getElem?_toArray, List.getElem?_cons_succ, List.getElem?_cons_zero]; rfl)
  case hsx6k | hfx6k | hrx6k => kernel_rfl
  case hQx6k => exact fun _ _ _ h => h
  case hwx6k => rfl
  case hyx6k =>
    intro W hW
    go_simp
    try with_reducible rfl
  simp only [Act.put, List.setIfInBounds_toArray, List.set_cons_succ, List.set_cons_zero]
  refine' wpAnyH_take (i := 3) ?h1x3k ?hsx3k ?hfx3k ?hrx3k ?hQx3k (Or.inl ⟨?hwx3k, ?hyx3k⟩) hS ?restx3k
  case h1x3k => (simp only [List.getElem?_toArray, List.getElem?_cons_succ, List.getElem?_cons_zero]; rfl)
  case hsx3k | hfx3k | hrx3k => kernel_rfl
  case hQx3k => exact fun _ _ _ h => h
  case hwx3k => rfl
  case hyx3k =>
    intro W hW
    have dd := (PLM.out W hW).c0
    go_simp
    try with_reducible rfl
  simp only [Act.put, List.setIfInBounds_toArray, List.set_cons_succ, List.set_cons_zero]
  refine' wpAnyH_take (i := 7) ?h1x7k ?hsx7k ?hfx7k ?hrx7k ?hQx7k (Or.inl ⟨?hwx7k, ?hyx7k⟩) hS ?restx7k
  case h1x7k => (simp only [List.getElem?_toArray, List.getElem?_cons_succ, List.getElem?_cons_zero]; rfl)
  case hsx7k | hfx7k | hrx7k => kernel_rfl
  case hQx7k => exact fun _ _ _ h => h
  case hwx7k => rfl
  case hyx7k =>
    intro W hW
    have dd := (PLM.out W hW).c3
    go_simp
    try with_reducible rfl
  simp only [Act.put, List.setIfInBounds_toArray, List.set_cons_succ, List.set_cons_zero]
  refine wpAnyH_ready (rs := [9]) (by kernel_rfl) (by simp) ?_
  refine' (AllReadyH.cons ?hoc9k (fun K hK => ?stc9k) AllReadyH.nil)
  case hoc9k => (simp only [List.getElem?_toArray, List.getElem?_cons_succ, List.getElem?_cons_zero]; rfl)
  go_simp
  refine (sector A.gb A.fr n Ws H.out.pool.b0 HF2.out).mono ?_
  rintro e w' ⟨rfl, rfl⟩
  go_wp2_with fail
  refine hK.out _ _ hS (fun hHeld => ?_)
  clear hK K
  try simp only [Act.put, List.setIfInBounds_toArray, List.set_cons_succ, List.set_cons_zero]
  clear hS
  have hS := hHeld
  clear hHeld
  refine wpAnyH_ready (rs := [11]) (by kernel_rfl) (by simp) ?_
  refine' (AllReadyH.cons ?hoc11kx9 (fun K hK => ?stc11kx9) AllReadyH.nil)
  case hoc11kx9 => (simp only [List.getElem?_toArray, List.getElem?_cons_succ, List.getElem?_cons_zero]; rfl)
  go_simp
  refine (WRT.out Ws H.out V.out).mono ?_
  rintro e w4 ⟨wv', rfl, hp4, hm4⟩
  have V4 := Lib.hid (dk.TX.mods V.out hm4 (fun b cs hc hd => (dk.pv.DK.kinds H.out.dk).1 b cs hc hd))
  have H4 := Lib.hid hp4
  have hS4 := hS.trans hm4 (fun b hb => .inl hb)
  clear H V hp4 hm4
  go_wp2_with fail
  refine hK.out _ _ hS4 (fun hHeld => ?_)
  clear hK K hS4
  try simp only [Act.put, List.setIfInBounds_toArray, List.set_cons_succ, List.set_cons_zero]
  clear hS
  have hS := hHeld
  clear hHeld
  refine' wpAnyH_take (i := 12) ?h1x12kx9x11 ?hsx12kx9x11 ?hfx12kx9x11 ?hrx12kx9x11 ?hQx12kx9x11 (Or.inl ⟨?hwx12kx9x11, ?hyx12kx9x11⟩) hS ?restx12kx9x11
  case h1x12kx9x11 => (simp only [List.getElem?_toArray, List.getElem?_cons_succ, List.getElem?_cons_zero]; rfl)
  case hsx12kx9x11 | hfx12kx9x11 | hrx12kx9x11 => kernel_rfl
  case hQx12kx9x11 => exact fun _ _ _ h => h
  case hwx12kx9x11 => rfl
  case hyx12kx9x11 =>
    intro W hW
    go_simp
    try with_reducible rfl
  simp only [Act.put, List.setIfInBounds_toArray, List.set_cons_succ, List.set_cons_zero]
  refine wpAnyH_done (by kernel_rfl) ?_ _
  have G4 := Lib.hid ((hS.block _ (blk_lt G3.out) DTN.out).trans G3.out)
  have M4 : Hid (dk.Mods (Oth A D S) w w4) := M3.out.trans hS (fun b hb => .inl (.inl hb))
  have Z4 : Hid (w.heap.size < w4.heap.size) := Nat.lt_of_lt_of_le Z3.out hS.size
  have c2 := H4.out.pool.c2
  have SUM : Hid (Calls Tryd.prog 23 #[.pointer (some ⟨A.gl, 0, none⟩), .slice (some ⟨vb, 0, none⟩) 512 512] w4 (hl.SumP S w4 A.gl T (bI y))) := hl.sumY S A.gl T (bI y) _ w4 H4.out.lg (fun q _ hq => by cases hq; exact NV.out) HT.out H4.out.gg (bI_byt HY.out) (by rw [bI_len]; decide) (tx_sees V4.out HY.out)
  clear hS PLM WRT G3 M3 Z3
  go_upto_region 12 with (fail)
  go_wp2_with fail
  refine SUM.out.mono ?_
  rintro e w5 ⟨rfl, hlg, hm5⟩
  have H5 := Lib.hid (H4.out.log hlg hm5)
  have G5 := Lib.hid ((hm5.block _ (blk_lt G4.out) NS.out).trans G4.out)
  have M5 : Hid (dk.Mods (Oth A D S) w w5) := M4.out.trans (dkh hm5) (fun b hb => .inl (.inr (.inr hb)))
  have Z45 : Hid (w4.heap.size ≤ w5.heap.size) := hm5.size
  clear hlg hm5 SUM c2
  go_wp2_with (first | (refine wpList_build2_runD (u1 := .int .u32 (n : Int)) (u2 := .agg (hl.bcells (hl.sha (bI y)))) rfl 26 0 1 (.tmp 57) (.tmp 63) rfl rfl rfl (BR.out w5) ?_; refine wpList_store_row rfl 26 (.tmp 6) (.tmp 64) rfl w.heap.size C rfl rfl 26 Z G5.out IC.out IZC.out OC.out ?_))
  have FIN := Lib.hid (setRow_heap w5 w.heap.size _ C 26 _ G5.out)
  refine bodyPost_ret (v := .tuple #[.agg C, .int .i64 0]) (dk.results_cell_tmp Tryd.results7 _ _ w.heap.size 26 C (0, 0) _ rfl FIN.out Tryd.underlying26 rfl IC.out) rfl ?_
  refine PPe.out _ _ ⟨wv', _, rfl, H5.out.other (modsRow w5 w.heap.size C) G5.out (fun e => ?_) H2.out, fun q e => ?_, M5.out.trans (modsRow w5 w.heap.size C) (fun b hb => .inr (by omega))⟩
  · rcases e with e | e
    · exact NS.out e
    · have := Z4.out; omega
  · rcases e with e | e
    · exact .inl e
    · have := Z4.out; exact .inr (by omega)
end Go.Proofs.YtjdamlmoegippaaDoor.pl
