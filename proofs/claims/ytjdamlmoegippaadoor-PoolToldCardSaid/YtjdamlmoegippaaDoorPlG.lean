/-
  Contracts of pool.Put where the field tells an error, of Get of an extent that is there, of Clash where there is none. Condition: the pool stands in memory with its parts.
-/
import Derived.Test.YtjdamlmoegippaaDoorPlF
import Derived.Stop.BytesEq
namespace Go.Proofs.YtjdamlmoegippaaDoor.pl
open Go.RowKit
theorem cells_tob (xs : List Int) (h : hl.Byt xs) : hl.bcells xs = ((hl.tob xs).map Extern.Stop.cell).toArray := by
  unfold hl.bcells hl.tob
  rw [List.map_map]
  congr 1
  apply List.map_congr_left
  intro x hx
  have := h x hx
  simp only [Function.comp_def, Extern.Stop.cell]
  congr 1
  simp
  omega
theorem eqBytes (d : Nat) (t : TypeId) (n : Nat) (ht : Tryd.prog.underlying t = some (.array n 5)) (xs ys : List Int) (hx : hl.Byt xs) (hy : hl.Byt ys) (lx : xs.length = n) (ly : ys.length = n) (w : World) :
    (Op.equalIn (d + 2) t (.agg (hl.bcells xs)) (.agg (hl.bcells ys))).run Tryd.prog w = .ok (decide (xs = ys)) w := by
  have h := run_equalIn_bytes (P := Tryd.prog) w d t 5 n ht Tryd.underlying5 (fun _ => by kernel_rfl) (hl.tob xs) (hl.tob ys) (by simp [hl.tob, lx]) (by simp [hl.tob, ly])
  rw [← cells_tob xs hx, ← cells_tob ys hy] at h
  have hb : (hl.tob xs == hl.tob ys) = decide (xs = ys) := by
    by_cases e : xs = ys
    · subst e; simp
    · have : hl.tob xs ≠ hl.tob ys := fun h => e (hl.tob_inj hx hy h)
      simp [e, this]
  rw [h, hb]
theorem yieldsIf_load_at {P : Program} {ops : Array Oper} {S : World → Prop} {op : Oper} {a : Act} (hw : Region.wanted op (yielded ops a.tmps) = true) (ty : TypeId) (x : Operand) (ho : op.op = .load ty x)
    (b o : Nat) (hx : a.eval x = .pointer (some ⟨b, o, none⟩)) (cs : Array Value) (d : TypeDesc) (hS : ∀ w, S w → w.rangeAt b o cs.toList)
    (hu : P.underlying ty = some d) (hd : d.isRow = true) (hi : (P.info? ty).map (·.size) = some cs.size) : YieldsIf P ops S op (.agg cs) a :=
  yieldsIf_load_mid hw ty x ho b o hx cs.toList d hS hu hd (by rw [Array.length_toList]; exact hi)
def PutE (w : World) (A : PA) (D : DS) (r : Int × ex.St) (S : Nat → Prop) (T : List (List Int)) (e : Ending) (w' : World) : Prop :=
  e = .returned (.tuple #[.agg zr, .int .i64 r.1]) ∧ PW w' A D r.2 S T ∧ dk.Mods (Oth A D S) w w'
set_option maxRecDepth 100000 in
set_option maxHeartbeats 4000000 in
theorem put_full {w : World} {A : PA} {D : DS} {s : ex.St} {S : Nat → Prop} {T : List (List Int)} (h : PW w A D s S T) (t : Int) (x : Option Addr) (k : Nat) (htk : (ex.sTak A.ct s t).1 ≠ 0) :
    Calls Tryd.prog 7 #[.pointer (some ⟨A.p, 0, none⟩), .int .i64 t, .slice x 512 k] w (PutE w A D (ex.sTak A.ct s t) S T) := by
  have hz := z26
  have HBL := Lib.hid b26
  have IZ := Lib.hid i26
  have OZ := Lib.hid o26
  unfold PutE
  generalize zr = Z at *
  obtain ⟨W0, hW0⟩ : ∃ W0, W0 = w.alloc (.cells Z 26) := ⟨_, rfl⟩
  have b0 : Below w.heap.size w W0 := by rw [hW0]; exact (Below.refl _ _).alloc (Nat.le_refl _) _
  have G0 : Hid (W0.heap[w.heap.size]? = some (.cells Z 26 (0, 0))) := by show _ = _; rw [hW0]; exact heap_alloc_new w _
  have H2 : Hid (2 ≤ w.heap.size) := by have := h.gg.lt; show _ ≤ _; omega
  have H0 := Lib.hid (h.below b0)
  have NS : Hid (¬ S w.heap.size) := fun e => by have := h.lg.own _ e; omega
  have FTN : Hid (¬ ex.Ft A.gf A.mb A.wb w.heap.size) := fun e => by
    have a := h.a2 w.heap.size
    rcases e with e | e | e
    · have := (a (.inl e)).2.1; omega
    · have := (a (.inr (.inr (.inl e)))).2.1; omega
    · have := (a (.inr (.inr (.inr e)))).2.1; omega
  have BE := Lib.hid b0
  have HW0 := Lib.hid hW0
  have TK : Hid (Calls Tryd.prog 21 #[.pointer (some ⟨A.gf, 0, none⟩), .int .i64 t] W0 (ex.TS W0 A.gf A.rb A.mb A.wb A.ct s t)) := ex.takS H0.out.fd t
  have MD := Lib.hid (made_yes H0.out.pool)
  have c1 := H0.out.pool.c1
  have xz : ex.xTak A.ct s t = 0 := by unfold ex.xTak; rw [if_neg htk]
  have XZ := Lib.hid xz
  obtain ⟨E, hE⟩ : ∃ E, E = ex.sTak A.ct s t := ⟨_, rfl⟩
  have TK2 : Hid (Calls Tryd.prog 21 #[.pointer (some ⟨A.gf, 0, none⟩), .int .i64 t] W0 fun e w' => e = .returned (.tuple #[.int .u32 0, .int .i64 E.1]) ∧ ex.FS w' A.gf A.rb A.mb A.wb A.ct E.2 ∧ ex.Mods (ex.Ft A.gf A.mb A.wb) W0 w') := by
    have hh := TK.out
    unfold ex.TS at hh
    rw [xz] at hh
    rw [hE]
    exact hh
  rw [← hE] at htk ⊢
  have hne : (E.1 != 0) = true := by simp [htk]
  have HNE := Lib.hid hne
  clear hW0 b0 h TK xz XZ hE htk hne
  go_enter Tryd.func7, Tryd.ntmps7
  go_upto_region 1 with (fail)
  rw [← HW0.out]
  clear hz
  go_wp2_with fail
  refine MD.out.mono ?_
  rintro e w' ⟨rfl, rfl⟩
  go_wp2_with fail
  refine TK2.out.mono ?_
  rintro e w3 ⟨rfl, hf3, hm3⟩
  have H3 := Lib.hid (H0.out.field hf3 hm3)
  have G3 := Lib.hid ((hm3.block _ (blk_lt G0.out) FTN.out).trans G0.out)
  have M3 : Hid (dk.Mods (Oth A D S) w w3) := (dk.Mods.of_below BE.out).trans (dkm hm3) (fun b hb => .inl (.inr (.inl hb)))
  have q1 := HNE.out
  clear hf3 hm3 G0 H0 TK2 MD c1 BE FTN
  go_wp2_with (first | (refine wpList_blank rfl 26 rfl (HBL.out _) ?_) | (refine wpList_store_row rfl 26 (.tmp 6) (.tmp 32) rfl w.heap.size Z rfl rfl 26 Z G3.out IZ.out rfl OZ.out ?_))
  have FIN := Lib.hid (setRow_heap w3 w.heap.size _ Z 26 _ G3.out)
  exact bodyPost_ret (v := .tuple #[.agg Z, .int .i64 E.1]) (dk.results_cell_tmp Tryd.results7 _ _ w.heap.size 26 Z (0, 0) _ rfl FIN.out Tryd.underlying26 rfl IZ.out) rfl
    ⟨rfl, H3.out.other (modsRow w3 w.heap.size Z) G3.out NS.out H2.out, M3.out.trans (modsRow w3 w.heap.size Z) (fun b hb => .inr (by omega))⟩
/-- What a sector reads as. -/
def pY (o : Option Nat) : Nat := o.getD 0
theorem pad_pY (o : Option Nat) : dk.padT o = dk.tx (pY o) := by cases o <;> rfl
/-- A pool behind a Get of an extent that is there. -/
def GetP (w : World) (A : PA) (D : DS) (s : ex.St) (S : Nat → Prop) (T : List (List Int)) (y : Nat) (z : List Int) (e : Ending) (w' : World) : Prop :=
  ∃ (q : Nat) (S' : Nat → Prop), e = .returned (if hl.sha (bI y) = z then .tuple #[.slice (some ⟨q, 0, none⟩) 512 512, .int .i64 0] else .tuple #[.slice none 0 0, .int .i64 40]) ∧ dk.TX w' (.slice (some ⟨q, 0, none⟩) 512 512) (dk.tx y) ∧ w.heap.size ≤ q ∧ ¬ S' q ∧
    PW w' A D s S' (hl.addT T (bI y)) ∧ (∀ q, S' q → S q ∨ w.heap.size ≤ q) ∧ dk.Mods S w w'
set_option maxRecDepth 100000 in
set_option maxHeartbeats 8000000 in
theorem get_any {w : World} {A : PA} {D : DS} {s : ex.St} {S : Nat → Prop} {T : List (List Int)} (h : PW w A D s S T) (m : Nat) (z : List Int) (hz : hl.Byt z) (hzl : z.length = 32) (hm : m < A.ct) (y : Nat) (hyy : pY (dk.shwn D.su D.ws (A.fr + m)) = y) (hy : dk.YB y)
    (hd : D.d = false) (hN : A.fr + A.ct ≤ A.N) (hT : T.length ≤ 999999) :
    Calls Tryd.prog 9 #[.pointer (some ⟨A.p, 0, none⟩), .agg (rl m z).toArray] w (GetP w A D s S T y z) := by
  have hN2 : A.N ≤ 65536 := h.dk.n2
  have ic := Lib.hid (irl m hzl)
  obtain ⟨C, hC⟩ : ∃ C, C = (rl m z).toArray := ⟨_, rfl⟩
  rw [← hC] at ic ⊢
  obtain ⟨W0, hW0⟩ : ∃ W0, W0 = w.alloc (.cells C 26) := ⟨_, rfl⟩
  have b0 : Below w.heap.size w W0 := by rw [hW0]; exact (Below.refl _ _).alloc (Nat.le_refl _) _
  have G0 : Hid (W0.heap[w.heap.size]? = some (.cells C 26 (0, 0))) := by show _ = _; rw [hW0]; exact heap_alloc_new w _
  have H0 := Lib.hid (h.below b0)
  have NS : Hid (¬ S w.heap.size) := fun e => by have := h.lg.own _ e; omega
  have BE := Lib.hid b0
  have HW0 := Lib.hid hW0
  have CE : Hid (∀ W : World, W.heap[w.heap.size]? = some (.cells C 26 (0, 0)) → W.cell? ⟨w.heap.size, 0, none⟩ = some (.int .u32 (m : Int)) ∧ W.rangeAt w.heap.size 1 (z.map (Value.int .u8))) := fun W hh => by
    rw [hC] at hh
    refine ⟨by rw [cell_row hh]; rfl, fun j v hj => ?_⟩
    rw [cell_row hh, Nat.add_comm]
    simpa [rl] using hj
  have I24 : Hid ((Tryd.prog.info? 24).map (·.size) = some (z.map (Value.int .u8)).length) := by
    show _ = _
    rw [List.length_map, hzl]
    kernel_rfl
  have MD := Lib.hid (made_yes H0.out.pool)
  have SZ : Hid (∀ W, PW W A D s S T → Calls Tryd.prog 24 #[.pointer (some ⟨A.gf, 0, none⟩)] W fun e w' => e = .returned (.int .i64 A.ct) ∧ W = w') := fun W hh => ex.sizeF hh.fd
  have HCT : Hid (A.ct ≤ 2048) := ex.FD.n2 h.fd
  have RDW : Hid (∀ W, PW W A D s S T → Calls Tryd.prog 25 #[.pointer (some ⟨A.gd, 0, none⟩), .int .u32 ((A.fr + m : Nat) : Int)] W fun e w' => ∃ q, e = .returned (.tuple #[.slice (some ⟨q, 0, none⟩) 512 512, .int .i64 0]) ∧ dk.TX w' (.slice (some ⟨q, 0, none⟩) 512 512) (dk.tx y) ∧ W.heap.size ≤ q ∧ Below W.heap.size W w') := fun W hh => by
    have hdk := hh.dk
    unfold DKs at hdk
    rw [hd] at hdk
    refine (dk.pv.readD_ok hdk (A.fr + m) (by omega)).mono fun e w' hq => ?_
    obtain ⟨q, h1, h2, h3, h4⟩ := hq
    refine ⟨q, h1, ⟨q, by rw [dk.tx_len], ?_⟩, h3, h4⟩
    rw [h2, pad_pY, hyy]
  have HF2 : Hid (A.fr + m ≤ 4294967295) := by show _ ≤ _; omega
  have lsum : (hl.sha (bI y)).length = 32 := hl.sha_len _ (bI_byt hy)
  have EQ : Hid (∀ W, (Op.equalIn 10000 24 (.agg (hl.bcells (hl.sha (bI y)))) (.agg (z.map (Value.int .u8)).toArray)).run Tryd.prog W = .ok (decide (hl.sha (bI y) = z)) W) := fun W => eqBytes 9998 24 32 Tryd.underlying24 _ _ (hl.sha_byt _) hz lsum hzl W
  obtain ⟨bb, hbb⟩ : ∃ bb, bb = decide (hl.sha (bI y) = z) := ⟨_, rfl⟩
  rw [← hbb] at EQ
  have PPe : Hid (∀ (e : Ending) (w' : World), (∃ (q : Nat) (S' : Nat → Prop), e = .returned (if bb = true then .tuple #[.slice (some ⟨q, 0, none⟩) 512 512, .int .i64 0] else .tuple #[.slice none 0 0, .int .i64 40]) ∧ dk.TX w' (.slice (some ⟨q, 0, none⟩) 512 512) (dk.tx y) ∧ w.heap.size ≤ q ∧ ¬ S' q ∧
    PW w' A D s S' (hl.addT T (bI y)) ∧ (∀ q, S' q → S q ∨ w.heap.size ≤ q) ∧ dk.Mods S w w') → GetP w A D s S T y z e w') := fun e w' hh => by
    obtain ⟨q, S', h1, h2⟩ := hh
    refine ⟨q, S', ?_, h2⟩
    rw [h1, hbb]
    by_cases he : hl.sha (bI y) = z
    · rw [if_pos he, if_pos (decide_eq_true he)]
    · rw [if_neg he, if_neg (by simp [he])]
  obtain ⟨PP, hPP⟩ : ∃ PP, PP = GetP w A D s S T y z := ⟨_, rfl⟩
  rw [← hPP] at PPe ⊢
  have SWN : Hid (∀ q, S q → q < w.heap.size) := fun q hq => (h.lg.own q hq).2
  have I24B : Hid ((Tryd.prog.info? 24).map (·.size) = some (z.map (Value.int .u8)).toArray.size) := I24.out
  have HY := Lib.hid hy
  have HT := Lib.hid hT
  have HM := Lib.hid hm
  have WU : Hid (IntKind.u32.wrap (A.ct : Int) = (A.ct : Int)) := IntWalk.u32_in _ (by have := HCT.out; omega)
  clear hW0 b0 h hN hN2 hT hd hyy hC hz hzl lsum hy hm hbb hPP I24
  generalize z.map (Value.int .u8) = ZC at CE I24B EQ
  go_enter Tryd.func9, Tryd.ntmps9
  go_upto_region 1 with (fail)
  rw [← HW0.out]
  go_wp2_with fail
  refine MD.out.mono ?_
  rintro e w' ⟨rfl, rfl⟩
  clear MD HW0
  go_upto_region 3 with (fail)
  refine wp_region_held_drew (S := fun W => Below W0.heap.size W0 W) (by kernel_rfl) ((Below.refl _ _).drew) (fun hS => ?_)
  have hb0 : Below W0.heap.size W0 W0.drew := (Below.refl _ _).drew
  clear hb0 
  generalize W0.drew = Wks at hS  ⊢
  refine' wpAnyH_take (i := 0) ?h1x0k ?hsx0k ?hfx0k ?hrx0k ?hQx0k (Or.inl ⟨?hwx0k, ?hyx0k⟩) hS ?restx0k
  case h1x0k => (simp only [List.getElem?_toArray, List.getElem?_cons_zero]; rfl)
  case hsx0k | hfx0k | hrx0k => kernel_rfl
  case hQx0k => exact fun _ _ _ h => h
  case hwx0k => rfl
  case hyx0k =>
    intro W hW
    go_simp
    try with_reducible rfl
  simp only [Act.put, List.setIfInBounds_toArray, List.set_cons_succ, List.set_cons_zero]
  refine' wpAnyH_take (i := 2) ?h1x2k ?hsx2k ?hfx2k ?hrx2k ?hQx2k (Or.inl ⟨?hwx2k, ?hyx2k⟩) hS ?restx2k
  case h1x2k => (simp only [List.getElem?_toArray, List.getElem?_cons_succ, List.getElem?_cons_zero]; rfl)
  case hsx2k | hfx2k | hrx2k => kernel_rfl
  case hQx2k => exact fun _ _ _ h => h
  case hwx2k => rfl
  case hyx2k =>
    intro W hW
    go_simp
    try with_reducible rfl
  simp only [Act.put, List.setIfInBounds_toArray, List.set_cons_succ, List.set_cons_zero]
  refine' wpAnyH_take (i := 1) ?h1x1k ?hsx1k ?hfx1k ?hrx1k ?hQx1k (Or.inl ⟨?hwx1k, ?hyx1k⟩) hS ?restx1k
  case h1x1k => (simp only [List.getElem?_toArray, List.getElem?_cons_succ, List.getElem?_cons_zero]; rfl)
  case hsx1k | hfx1k | hrx1k => kernel_rfl
  case hQx1k => exact fun _ _ _ h => h
  case hwx1k => rfl
  case hyx1k =>
    intro W hW
    have rr := (hW.block _ (blk_lt G0.out)).trans G0.out
    have dd := (CE.out W rr).1
    go_simp
    try with_reducible rfl
  simp only [Act.put, List.setIfInBounds_toArray, List.set_cons_succ, List.set_cons_zero]
  refine' wpAnyH_take (i := 3) ?h1x3k ?hsx3k ?hfx3k ?hrx3k ?hQx3k (Or.inl ⟨?hwx3k, ?hyx3k⟩) hS ?restx3k
  case h1x3k => (simp only [List.getElem?_toArray, List.getElem?_cons_succ, List.getElem?_cons_zero]; rfl)
  case hsx3k | hfx3k | hrx3k => kernel_rfl
  case hQx3k => exact fun _ _ _ h => h
  case hwx3k => rfl
  case hyx3k =>
    intro W hW
    go_simp
    try with_reducible rfl
  simp only [Act.put, List.setIfInBounds_toArray, List.set_cons_succ, List.set_cons_zero]
  refine' wpAnyH_take (i := 4) ?h1x4k ?hsx4k ?hfx4k ?hrx4k ?hQx4k (Or.inl ⟨?hwx4k, ?hyx4k⟩) hS ?restx4k
  case h1x4k => (simp only [List.getElem?_toArray, List.getElem?_cons_succ, List.getElem?_cons_zero]; rfl)
  case hsx4k | hfx4k | hrx4k => kernel_rfl
  case hQx4k => exact fun _ _ _ h => h
  case hwx4k => rfl
  case hyx4k =>
    intro W hW
    go_simp
    try with_reducible rfl
  simp only [Act.put, List.setIfInBounds_toArray, List.set_cons_succ, List.set_cons_zero]
  refine' wpAnyH_take (i := 5) ?h1x5k ?hsx5k ?hfx5k ?hrx5k ?hQx5k (Or.inl ⟨?hwx5k, ?hyx5k⟩) hS ?restx5k
  case h1x5k => (simp only [List.getElem?_toArray, List.getElem?_cons_succ, List.getElem?_cons_zero]; rfl)
  case hsx5k | hfx5k | hrx5k => kernel_rfl
  case hQx5k => exact fun _ _ _ h => h
  case hwx5k => rfl
  case hyx5k =>
    intro W hW
    have dd := (H0.out.below hW).pool.c1
    go_simp
    try with_reducible rfl
  simp only [Act.put, List.setIfInBounds_toArray, List.set_cons_succ, List.set_cons_zero]
  refine wpAnyH_ready (rs := [6]) (by kernel_rfl) (by simp) ?_
  refine' (AllReadyH.cons ?hoc6k (fun K hK => ?stc6k) AllReadyH.nil)
  case hoc6k => (simp only [List.getElem?_toArray, List.getElem?_cons_succ, List.getElem?_cons_zero]; rfl)
  go_simp
  refine (SZ.out Wks (H0.out.below hS)).mono ?_
  rintro e w' ⟨rfl, rfl⟩
  go_wp2_with fail
  refine hK.out _ _ hS (fun hHeld => ?_)
  clear hK K
  try simp only [Act.put, List.setIfInBounds_toArray, List.set_cons_succ, List.set_cons_zero]
  clear hS
  have hS := hHeld
  clear hHeld
  refine' wpAnyH_take (i := 7) ?h1x7kx6 ?hsx7kx6 ?hfx7kx6 ?hrx7kx6 ?hQx7kx6 (Or.inl ⟨?hwx7kx6, ?hyx7kx6⟩) hS ?restx7kx6
  case h1x7kx6 => (simp only [List.getElem?_toArray, List.getElem?_cons_succ, List.getElem?_cons_zero]; rfl)
  case hsx7kx6 | hfx7kx6 | hrx7kx6 => kernel_rfl
  case hQx7kx6 => exact fun _ _ _ h => h
  case hwx7kx6 => rfl
  case hyx7kx6 =>
    intro W hW
    have dd := WU.out
    go_simp
    try with_reducible rfl
  simp only [Act.put, List.setIfInBounds_toArray, List.set_cons_succ, List.set_cons_zero]
  refine' wpAnyH_take (i := 8) ?h1x8kx6 ?hsx8kx6 ?hfx8kx6 ?hrx8kx6 ?hQx8kx6 (Or.inl ⟨?hwx8kx6, ?hyx8kx6⟩) hS ?restx8kx6
  case h1x8kx6 => (simp only [List.getElem?_toArray, List.getElem?_cons_succ, List.getElem?_cons_zero]; rfl)
  case hsx8kx6 | hfx8kx6 | hrx8kx6 => kernel_rfl
  case hQx8kx6 => exact fun _ _ _ h => h
  case hwx8kx6 => rfl
  case hyx8kx6 =>
    intro W hW
    have dd : ((A.ct : Int) ≤ (m : Int)) = False := by have := HM.out; simp; omega
    go_simp
    try with_reducible rfl
  simp only [Act.put, List.setIfInBounds_toArray, List.set_cons_succ, List.set_cons_zero]
  refine' wpAnyH_take (i := 9) ?h1x9kx6 ?hsx9kx6 ?hfx9kx6 ?hrx9kx6 ?hQx9kx6 (Or.inl ⟨?hwx9kx6, ?hyx9kx6⟩) hS ?restx9kx6
  case h1x9kx6 => (simp only [List.getElem?_toArray, List.getElem?_cons_succ, List.getElem?_cons_zero]; rfl)
  case hsx9kx6 | hfx9kx6 | hrx9kx6 => kernel_rfl
  case hQx9kx6 => exact fun _ _ _ h => h
  case hwx9kx6 => rfl
  case hyx9kx6 =>
    intro W hW
    go_simp
    try with_reducible rfl
  simp only [Act.put, List.setIfInBounds_toArray, List.set_cons_succ, List.set_cons_zero]
  refine wpAnyH_done (by kernel_rfl) ?_ _
  have B3 := Lib.hid (BE.out.trans (hS.mono BE.out.size))
  have H3 := Lib.hid (H0.out.below hS)
  have G3 := Lib.hid ((hS.block _ (blk_lt G0.out)).trans G0.out)
  clear H0 G0 BE SZ WU HCT
  obtain ⟨w3, hw3⟩ : ∃ w3, w3 = Wks := ⟨_, rfl⟩
  rw [← hw3] at B3 H3 G3 ⊢
  clear hS hw3
  go_upto_region 5 with (fail)
  refine wp_region_held_drew (S := fun W => Below w3.heap.size w3 W) (by kernel_rfl) ((Below.refl _ _).drew) (fun hS => ?_)
  have hb0 : Below w3.heap.size w3 w3.drew := (Below.refl _ _).drew
  clear hb0 
  generalize w3.drew = Wms at hS  ⊢
  refine' wpAnyH_take (i := 0) ?h1x0m ?hsx0m ?hfx0m ?hrx0m ?hQx0m (Or.inl ⟨?hwx0m, ?hyx0m⟩) hS ?restx0m
  case h1x0m => (simp only [List.getElem?_toArray, List.getElem?_cons_zero]; rfl)
  case hsx0m | hfx0m | hrx0m => kernel_rfl
  case hQx0m => exact fun _ _ _ h => h
  case hwx0m => rfl
  case hyx0m =>
    intro W hW
    go_simp
    try with_reducible rfl
  simp only [Act.put, List.setIfInBounds_toArray, List.set_cons_succ, List.set_cons_zero]
  refine' wpAnyH_take (i := 4) ?h1x4m ?hsx4m ?hfx4m ?hrx4m ?hQx4m (Or.inl ⟨?hwx4m, ?hyx4m⟩) hS ?restx4m
  case h1x4m => (simp only [List.getElem?_toArray, List.getElem?_cons_succ, List.getElem?_cons_zero]; rfl)
  case hsx4m | hfx4m | hrx4m => kernel_rfl
  case hQx4m => exact fun _ _ _ h => h
  case hwx4m => rfl
  case hyx4m =>
    intro W hW
    go_simp
    try with_reducible rfl
  simp only [Act.put, List.setIfInBounds_toArray, List.set_cons_succ, List.set_cons_zero]
  refine' wpAnyH_take (i := 8) ?h1x8m ?hsx8m ?hfx8m ?hrx8m ?hQx8m (Or.inl ⟨?hwx8m, ?hyx8m⟩) hS ?restx8m
  case h1x8m => (simp only [List.getElem?_toArray, List.getElem?_cons_succ, List.getElem?_cons_zero]; rfl)
  case hsx8m | hfx8m | hrx8m => kernel_rfl
  case hQx8m => exact fun _ _ _ h => h
  case hwx8m => rfl
  case hyx8m =>
    intro W hW
    go_simp
    try with_reducible rfl
  simp only [Act.put, List.setIfInBounds_toArray, List.set_cons_succ, List.set_cons_zero]
  refine' wpAnyH_take (i := 1) ?h1x1m ?hsx1m ?hfx1m ?hrx1m ?hQx1m (Or.inl ⟨?hwx1m, ?hyx1m⟩) hS ?restx1m
  case h1x1m => (simp only [List.getElem?_toArray, List.getElem?_cons_succ, List.getElem?_cons_zero]; rfl)
  case hsx1m | hfx1m | hrx1m => kernel_rfl
  case hQx1m => exact fun _ _ _ h => h
  case hwx1m => rfl
  case hyx1m =>
    intro W hW
    go_simp
    try with_reducible rfl
  simp only [Act.put, List.setIfInBounds_toArray, List.set_cons_succ, List.set_cons_zero]
  refine' wpAnyH_take (i := 5) ?h1x5m ?hsx5m ?hfx5m ?hrx5m ?hQx5m (Or.inl ⟨?hwx5m, ?hyx5m⟩) hS ?restx5m
  case h1x5m => (simp only [List.getElem?_toArray, List.getElem?_cons_succ, List.getElem?_cons_zero]; rfl)
  case hsx5m | hfx5m | hrx5m => kernel_rfl
  case hQx5m => exact fun _ _ _ h => h
  case hwx5m => rfl
  case hyx5m =>
    intro W hW
    go_simp
    try with_reducible rfl
  simp only [Act.put, List.setIfInBounds_toArray, List.set_cons_succ, List.set_cons_zero]
  refine' wpAnyH_take (i := 9) ?h1x9m ?hsx9m ?hfx9m ?hrx9m ?hQx9m (Or.inl ⟨?hwx9m, ?hyx9m⟩) hS ?restx9m
  case h1x9m => (simp only [List.getElem?_toArray, List.getElem?_cons_succ, List.getElem?_cons_zero]; rfl)
  case hsx9m | hfx9m | hrx9m => kernel_rfl
  case hQx9m => exact fun _ _ _ h => h
  case hwx9m => rfl
  case hyx9m =>
    intro W hW
    have rr := (hW.block _ (blk_lt G3.out)).trans G3.out
    have dd := (CE.out W rr).1
    go_simp
    try with_reducible rfl
  simp only [Act.put, List.setIfInBounds_toArray, List.set_cons_succ, List.set_cons_zero]
  refine' wpAnyH_take (i := 2) ?h1x2m ?hsx2m ?hfx2m ?hrx2m ?hQx2m (Or.inl ⟨?hwx2m, ?hyx2m⟩) hS ?restx2m
  case h1x2m => (simp only [List.getElem?_toArray, List.getElem?_cons_succ, List.getElem?_cons_zero]; rfl)
  case hsx2m | hfx2m | hrx2m => kernel_rfl
  case hQx2m => exact fun _ _ _ h => h
  case hwx2m => rfl
  case hyx2m =>
    intro W hW
    go_simp
    try with_reducible rfl
  simp only [Act.put, List.setIfInBounds_toArray, List.set_cons_succ, List.set_cons_zero]
  refine' wpAnyH_take (i := 6) ?h1x6m ?hsx6m ?hfx6m ?hrx6m ?hQx6m (Or.inl ⟨?hwx6m, ?hyx6m⟩) hS ?restx6m
  case h1x6m => (simp only [List.getElem?_toArray, List.getElem?_cons_succ, List.getElem?_cons_zero]; rfl)
  case hsx6m | hfx6m | hrx6m => kernel_rfl
  case hQx6m => exact fun _ _ _ h => h
  case hwx6m => rfl
  case hyx6m =>
    intro W hW
    go_simp
    try with_reducible rfl
  simp only [Act.put, List.setIfInBounds_toArray, List.set_cons_succ, List.set_cons_zero]
  refine' wpAnyH_take (i := 3) ?h1x3m ?hsx3m ?hfx3m ?hrx3m ?hQx3m (Or.inl ⟨?hwx3m, ?hyx3m⟩) hS ?restx3m
  case h1x3m => (simp only [List.getElem?_toArray, List.getElem?_cons_succ, List.getElem?_cons_zero]; rfl)
  case hsx3m | hfx3m | hrx3m => kernel_rfl
  case hQx3m => exact fun _ _ _ h => h
  case hwx3m => rfl
  case hyx3m =>
    intro W hW
    have dd := (H3.out.below hW).pool.c0
    go_simp
    try with_reducible rfl
  simp only [Act.put, List.setIfInBounds_toArray, List.set_cons_succ, List.set_cons_zero]
  refine' wpAnyH_take (i := 7) ?h1x7m ?hsx7m ?hfx7m ?hrx7m ?hQx7m (Or.inl ⟨?hwx7m, ?hyx7m⟩) hS ?restx7m
  case h1x7m => (simp only [List.getElem?_toArray, List.getElem?_cons_succ, List.getElem?_cons_zero]; rfl)
  case hsx7m | hfx7m | hrx7m => kernel_rfl
  case hQx7m => exact fun _ _ _ h => h
  case hwx7m => rfl
  case hyx7m =>
    intro W hW
    have dd := (H3.out.below hW).pool.c3
    go_simp
    try with_reducible rfl
  simp only [Act.put, List.setIfInBounds_toArray, List.set_cons_succ, List.set_cons_zero]
  refine wpAnyH_ready (rs := [10]) (by kernel_rfl) (by simp) ?_
  refine' (AllReadyH.cons ?hoc10m (fun K hK => ?stc10m) AllReadyH.nil)
  case hoc10m => (simp only [List.getElem?_toArray, List.getElem?_cons_succ, List.getElem?_cons_zero]; rfl)
  go_simp
  refine (sector A.gb A.fr m Wms (H3.out.below hS).pool.b0 HF2.out).mono ?_
  rintro e w' ⟨rfl, rfl⟩
  go_wp2_with fail
  refine hK.out _ _ hS (fun hHeld => ?_)
  clear hK K
  try simp only [Act.put, List.setIfInBounds_toArray, List.set_cons_succ, List.set_cons_zero]
  clear hS
  have hS := hHeld
  clear hHeld
  refine wpAnyH_ready (rs := [11]) (by kernel_rfl) (by simp) ?_
  refine' (AllReadyH.cons ?hoc11mx10 (fun K hK => ?stc11mx10) AllReadyH.nil)
  case hoc11mx10 => (simp only [List.getElem?_toArray, List.getElem?_cons_succ, List.getElem?_cons_zero]; rfl)
  go_simp
  refine (RDW.out Wms (H3.out.below hS)).mono ?_
  rintro e Wmx10x11 ⟨q, rfl, hv, hq, hb⟩
  have V := Lib.hid hv
  have Q5 : Hid (w3.heap.size ≤ q) := Nat.le_trans hS.size hq
  clear hv hq
  go_wp2_with fail
  refine hK.out _ _ (hS.trans (hb.mono hS.size)) (fun hHeld => ?_)
  clear hK K
  try simp only [Act.put, List.setIfInBounds_toArray, List.set_cons_succ, List.set_cons_zero]
  clear hS
  have hS := hHeld
  clear hHeld
  clear hb
  refine' wpAnyH_take (i := 12) ?h1x12mx10x11 ?hsx12mx10x11 ?hfx12mx10x11 ?hrx12mx10x11 ?hQx12mx10x11 (Or.inl ⟨?hwx12mx10x11, ?hyx12mx10x11⟩) hS ?restx12mx10x11
  case h1x12mx10x11 => (simp only [List.getElem?_toArray, List.getElem?_cons_succ, List.getElem?_cons_zero]; rfl)
  case hsx12mx10x11 | hfx12mx10x11 | hrx12mx10x11 => kernel_rfl
  case hQx12mx10x11 => exact fun _ _ _ h => h
  case hwx12mx10x11 => rfl
  case hyx12mx10x11 =>
    intro W hW
    go_simp
    try with_reducible rfl
  simp only [Act.put, List.setIfInBounds_toArray, List.set_cons_succ, List.set_cons_zero]
  refine' wpAnyH_take (i := 13) ?h1x13mx10x11 ?hsx13mx10x11 ?hfx13mx10x11 ?hrx13mx10x11 ?hQx13mx10x11 (Or.inl ⟨?hwx13mx10x11, ?hyx13mx10x11⟩) hS ?restx13mx10x11
  case h1x13mx10x11 => (simp only [List.getElem?_toArray, List.getElem?_cons_succ, List.getElem?_cons_zero]; rfl)
  case hsx13mx10x11 | hfx13mx10x11 | hrx13mx10x11 => kernel_rfl
  case hQx13mx10x11 => exact fun _ _ _ h => h
  case hwx13mx10x11 => rfl
  case hyx13mx10x11 =>
    intro W hW
    go_simp
    try with_reducible rfl
  simp only [Act.put, List.setIfInBounds_toArray, List.set_cons_succ, List.set_cons_zero]
  refine' wpAnyH_take (i := 14) ?h1x14mx10x11 ?hsx14mx10x11 ?hfx14mx10x11 ?hrx14mx10x11 ?hQx14mx10x11 (Or.inl ⟨?hwx14mx10x11, ?hyx14mx10x11⟩) hS ?restx14mx10x11
  case h1x14mx10x11 => (simp only [List.getElem?_toArray, List.getElem?_cons_succ, List.getElem?_cons_zero]; rfl)
  case hsx14mx10x11 | hfx14mx10x11 | hrx14mx10x11 => kernel_rfl
  case hQx14mx10x11 => exact fun _ _ _ h => h
  case hwx14mx10x11 => rfl
  case hyx14mx10x11 =>
    intro W hW
    go_simp
    try with_reducible rfl
  simp only [Act.put, List.setIfInBounds_toArray, List.set_cons_succ, List.set_cons_zero]
  refine' wpAnyH_take (i := 15) ?h1x15mx10x11 ?hsx15mx10x11 ?hfx15mx10x11 ?hrx15mx10x11 ?hQx15mx10x11 (Or.inl ⟨?hwx15mx10x11, ?hyx15mx10x11⟩) hS ?restx15mx10x11
  case h1x15mx10x11 => (simp only [List.getElem?_toArray, List.getElem?_cons_succ, List.getElem?_cons_zero]; rfl)
  case hsx15mx10x11 | hfx15mx10x11 | hrx15mx10x11 => kernel_rfl
  case hQx15mx10x11 => exact fun _ _ _ h => h
  case hwx15mx10x11 => rfl
  case hyx15mx10x11 =>
    intro W hW
    go_simp
    try with_reducible rfl
  simp only [Act.put, List.setIfInBounds_toArray, List.set_cons_succ, List.set_cons_zero]
  refine' wpAnyH_take (i := 16) ?h1x16mx10x11 ?hsx16mx10x11 ?hfx16mx10x11 ?hrx16mx10x11 ?hQx16mx10x11 (Or.inl ⟨?hwx16mx10x11, ?hyx16mx10x11⟩) hS ?restx16mx10x11
  case h1x16mx10x11 => (simp only [List.getElem?_toArray, List.getElem?_cons_succ, List.getElem?_cons_zero]; rfl)
  case hsx16mx10x11 | hfx16mx10x11 | hrx16mx10x11 => kernel_rfl
  case hQx16mx10x11 => exact fun _ _ _ h => h
  case hwx16mx10x11 => rfl
  case hyx16mx10x11 =>
    intro W hW
    go_simp
    try with_reducible rfl
  simp only [Act.put, List.setIfInBounds_toArray, List.set_cons_succ, List.set_cons_zero]
  refine wpAnyH_done (by kernel_rfl) ?_ _
  have B5 := Lib.hid (B3.out.trans (hS.mono B3.out.size))
  have H5 := Lib.hid (H3.out.below hS)
  have G5 := Lib.hid ((hS.block _ (blk_lt G3.out)).trans G3.out)
  have QW : Hid (w.heap.size ≤ q) := Nat.le_trans B3.out.size Q5.out
  clear H3 G3 B3 RDW HF2
  obtain ⟨w5, hw5⟩ : ∃ w5, w5 = Wmx10x11 := ⟨_, rfl⟩
  rw [← hw5] at B5 H5 G5 V ⊢
  clear hS hw5
  have SUM : Hid (∀ W, PW W A D s S T → dk.TX W (.slice (some ⟨q, 0, none⟩) 512 512) (dk.tx y) → Calls Tryd.prog 23 #[.pointer (some ⟨A.gl, 0, none⟩), .slice (some ⟨q, 0, none⟩) 512 512] W (hl.SumP S W A.gl T (bI y))) := fun W hh hv => hl.sumY S A.gl T (bI y) _ W hh.lg (fun q' _ hq => by
    have e9 : q = q' := Option.some.inj hq
    subst e9
    exact fun e => by have := SWN.out _ e; have := QW.out; omega) HT.out hh.gg (bI_byt HY.out) (by rw [bI_len]; decide) (tx_sees hv HY.out)
  have PLM : Hid (∀ W, dk.Mods S w5 W → PL W A.p A.gd A.gf A.gb (.pointer (some ⟨A.gl, 0, none⟩)) A.fr) := fun W m => H5.out.pool.mods m (H5.out.a3 _ (.inl rfl)).2 (H5.out.a3 _ (.inr rfl)).2
  have RNG : Hid (∀ W, dk.Mods S w5 W → W.rangeAt w.heap.size 1 ZC) := fun W m => (CE.out W ((m.block _ (blk_lt G5.out) NS.out).trans G5.out)).2
  clear CE
  cases bb with
  | true =>
    go_upto_region 8 with (fail)
    refine wp_region_held_drew (S := fun W => dk.Mods S w5 W) (by kernel_rfl) (dk.Mods.of_below (Below.refl _ _).drew) (fun hS => ?_)
    have qH := H5.out.below (Below.refl _ _).drew
    have qV := dk.TX.below V.out (Below.refl _ _).drew
    generalize w5.drew = Ws at hS qH qV ⊢
    have H := Lib.hid qH
    have V8 := Lib.hid qV
    clear qH qV
    refine' wpAnyH_take (i := 0) ?h1x0n ?hsx0n ?hfx0n ?hrx0n ?hQx0n (Or.inl ⟨?hwx0n, ?hyx0n⟩) hS ?restx0n
    case h1x0n => (simp only [List.getElem?_toArray, List.getElem?_cons_zero]; rfl)
    case hsx0n | hfx0n | hrx0n => kernel_rfl
    case hQx0n => exact fun _ _ _ h => h
    case hwx0n => rfl
    case hyx0n =>
      intro W hW
      go_simp
      try with_reducible rfl
    simp only [Act.put, List.setIfInBounds_toArray, List.set_cons_succ, List.set_cons_zero]
    refine' wpAnyH_take (i := 4) ?h1x4n ?hsx4n ?hfx4n ?hrx4n ?hQx4n (Or.inl ⟨?hwx4n, ?hyx4n⟩) hS ?restx4n
    case h1x4n => (simp only [List.getElem?_toArray, List.getElem?_cons_succ, List.getElem?_cons_zero]; rfl)
    case hsx4n | hfx4n | hrx4n => kernel_rfl
    case hQx4n => exact fun _ _ _ h => h
    case hwx4n => rfl
    case hyx4n =>
      intro W hW
      go_simp
      try with_reducible rfl
    simp only [Act.put, List.setIfInBounds_toArray, List.set_cons_succ, List.set_cons_zero]
    refine' wpAnyH_take (i := 6) ?h1x6n ?hsx6n ?hfx6n ?hrx6n ?hQx6n (Or.inl ⟨?hwx6n, ?hyx6n⟩) hS ?restx6n
    case h1x6n => (simp only [List.getElem?_toArray, List.getElem?_cons_succ, List.getElem?_cons_zero]; rfl)
    case hsx6n | hfx6n | hrx6n => kernel_rfl
    case hQx6n => exact fun _ _ _ h => h
    case hwx6n => rfl
    case hyx6n =>
      intro W hW
      go_simp
      try with_reducible rfl
    simp only [Act.put, List.setIfInBounds_toArray, List.set_cons_succ, List.set_cons_zero]
    refine' wpAnyH_take (i := 1) ?h1x1n ?hsx1n ?hfx1n ?hrx1n ?hQx1n (Or.inl ⟨?hwx1n, ?hyx1n⟩) hS ?restx1n
    case h1x1n => (simp only [List.getElem?_toArray, List.getElem?_cons_succ, List.getElem?_cons_zero]; rfl)
    case hsx1n | hfx1n | hrx1n => kernel_rfl
    case hQx1n => exact fun _ _ _ h => h
    case hwx1n => rfl
    case hyx1n =>
      intro W hW
      go_simp
      try with_reducible rfl
    simp only [Act.put, List.setIfInBounds_toArray, List.set_cons_succ, List.set_cons_zero]
    refine' wpAnyH_take (i := 7) ?h1x7n ?hsx7n ?hfx7n ?hrx7n ?hQx7n (yieldsIf_load_at ?hwx7n 24 (.tmp 46) ?hopx7n w.heap.size 1 rfl ZC.toArray _ (fun W hW => RNG.out W hW) Tryd.underlying24 rfl ?hix7n) hS ?restx7n
    case h1x7n => (simp only [List.getElem?_toArray, List.getElem?_cons_succ, List.getElem?_cons_zero]; rfl)
    case hopx7n => rfl
    case hsx7n | hfx7n | hrx7n => kernel_rfl
    case hQx7n => exact fun _ _ _ h => h
    case hwx7n => rfl
    case hix7n => exact I24B.out
    simp only [Act.put, List.setIfInBounds_toArray, List.set_cons_succ, List.set_cons_zero]
    refine' wpAnyH_take (i := 2) ?h1x2n ?hsx2n ?hfx2n ?hrx2n ?hQx2n (Or.inl ⟨?hwx2n, ?hyx2n⟩) hS ?restx2n
    case h1x2n => (simp only [List.getElem?_toArray, List.getElem?_cons_succ, List.getElem?_cons_zero]; rfl)
    case hsx2n | hfx2n | hrx2n => kernel_rfl
    case hQx2n => exact fun _ _ _ h => h
    case hwx2n => rfl
    case hyx2n =>
      intro W hW
      go_simp
      try with_reducible rfl
    simp only [Act.put, List.setIfInBounds_toArray, List.set_cons_succ, List.set_cons_zero]
    refine' wpAnyH_take (i := 3) ?h1x3n ?hsx3n ?hfx3n ?hrx3n ?hQx3n (Or.inl ⟨?hwx3n, ?hyx3n⟩) hS ?restx3n
    case h1x3n => (simp only [List.getElem?_toArray, List.getElem?_cons_succ, List.getElem?_cons_zero]; rfl)
    case hsx3n | hfx3n | hrx3n => kernel_rfl
    case hQx3n => exact fun _ _ _ h => h
    case hwx3n => rfl
    case hyx3n =>
      intro W hW
      have dd := (PLM.out W hW).c2
      go_simp
      try with_reducible rfl
    simp only [Act.put, List.setIfInBounds_toArray, List.set_cons_succ, List.set_cons_zero]
    refine wpAnyH_ready (rs := [5]) (by kernel_rfl) (by simp) ?_
    refine' (AllReadyH.cons ?hoc5n (fun K hK => ?stc5n) AllReadyH.nil)
    case hoc5n => (simp only [List.getElem?_toArray, List.getElem?_cons_succ, List.getElem?_cons_zero]; rfl)
    go_simp
    refine (SUM.out Ws H.out V8.out).mono ?_
    rintro e w4 ⟨rfl, hlg, hm⟩
    have H4 := Lib.hid (H.out.log hlg hm)
    have V4 : Hid (dk.TX w4 (.slice (some ⟨q, 0, none⟩) 512 512) (dk.tx y)) := by
      obtain ⟨b, e1, e2⟩ := V8.out
      injection e1 with e1
      injection e1 with e1
      injection e1 with e1
      subst e1
      exact ⟨_, by rw [dk.tx_len], (hm.block _ (blk_lt e2) (fun e => by have := SWN.out _ e; have := QW.out; omega)).trans e2⟩
    have QL : Hid (q < Ws.heap.size) := by
      obtain ⟨b, e1, e2⟩ := V8.out
      injection e1 with e1
      injection e1 with e1
      injection e1 with e1
      subst e1
      exact blk_lt e2
    have ZW : Hid (w.heap.size ≤ Ws.heap.size) := Nat.le_trans B5.out.size hS.size
    have hS4 := hS.trans (dkh hm) (fun b hb => .inl hb)
    clear H V8 hlg hm
    go_wp2_with fail
    refine hK.out _ _ hS4 (fun hHeld => ?_)
    clear hK K hS4
    try simp only [Act.put, List.setIfInBounds_toArray, List.set_cons_succ, List.set_cons_zero]
    clear hS
    have hS := hHeld
    clear hHeld
    refine' wpAnyH_take (i := 8) ?h1x8nx5 ?hsx8nx5 ?hfx8nx5 ?hrx8nx5 ?hQx8nx5 (Or.inl ⟨?hwx8nx5, ?hyx8nx5⟩) hS ?restx8nx5
    case h1x8nx5 => (simp only [List.getElem?_toArray, List.getElem?_cons_succ, List.getElem?_cons_zero]; rfl)
    case hsx8nx5 | hfx8nx5 | hrx8nx5 => kernel_rfl
    case hQx8nx5 => exact fun _ _ _ h => h
    case hwx8nx5 => rfl
    case hyx8nx5 =>
      intro W hW
      have dd := EQ.out W
      go_simp
      try with_reducible rfl
    simp only [Act.put, List.setIfInBounds_toArray, List.set_cons_succ, List.set_cons_zero]
    refine wpAnyH_done (by kernel_rfl) ?_ _
    go_wp2_with fail
    refine PPe.out _ _ ⟨q, _, rfl, V4.out, QW.out, fun e => ?_, H4.out, fun q' e => ?_, (dk.Mods.of_below B5.out).trans hS (fun b hb => .inl hb)⟩
    · rcases e with e | e
      · have := SWN.out _ e; have := QW.out; omega
      · have := QL.out; omega
    · rcases e with e | e
      · exact .inl e
      · have := ZW.out; exact .inr (by omega)
  | false =>
    go_upto_region 8 with (fail)
    refine wp_region_held_drew (S := fun W => dk.Mods S w5 W) (by kernel_rfl) (dk.Mods.of_below (Below.refl _ _).drew) (fun hS => ?_)
    have qH := H5.out.below (Below.refl _ _).drew
    have qV := dk.TX.below V.out (Below.refl _ _).drew
    generalize w5.drew = Ws at hS qH qV ⊢
    have H := Lib.hid qH
    have V8 := Lib.hid qV
    clear qH qV
    refine' wpAnyH_take (i := 0) ?h1x0o ?hsx0o ?hfx0o ?hrx0o ?hQx0o (Or.inl ⟨?hwx0o, ?hyx0o⟩) hS ?restx0o
    case h1x0o => (simp only [List.getElem?_toArray, List.getElem?_cons_zero]; rfl)
    case hsx0o | hfx0o | hrx0o => kernel_rfl
    case hQx0o => exact fun _ _ _ h => h
    case hwx0o => rfl
    case hyx0o =>
      intro W hW
      go_simp
      try with_reducible rfl
    simp only [Act.put, List.setIfInBounds_toArray, List.set_cons_succ, List.set_cons_zero]
    refine' wpAnyH_take (i := 4) ?h1x4o ?hsx4o ?hfx4o ?hrx4o ?hQx4o (Or.inl ⟨?hwx4o, ?hyx4o⟩) hS ?restx4o
    case h1x4o => (simp only [List.getElem?_toArray, List.getElem?_cons_succ, List.getElem?_cons_zero]; rfl)
    case hsx4o | hfx4o | hrx4o => kernel_rfl
    case hQx4o => exact fun _ _ _ h => h
    case hwx4o => rfl
    case hyx4o =>
      intro W hW
      go_simp
      try with_reducible rfl
    simp only [Act.put, List.setIfInBounds_toArray, List.set_cons_succ, List.set_cons_zero]
    refine' wpAnyH_take (i := 6) ?h1x6o ?hsx6o ?hfx6o ?hrx6o ?hQx6o (Or.inl ⟨?hwx6o, ?hyx6o⟩) hS ?restx6o
    case h1x6o => (simp only [List.getElem?_toArray, List.getElem?_cons_succ, List.getElem?_cons_zero]; rfl)
    case hsx6o | hfx6o | hrx6o => kernel_rfl
    case hQx6o => exact fun _ _ _ h => h
    case hwx6o => rfl
    case hyx6o =>
      intro W hW
      go_simp
      try with_reducible rfl
    simp only [Act.put, List.setIfInBounds_toArray, List.set_cons_succ, List.set_cons_zero]
    refine' wpAnyH_take (i := 1) ?h1x1o ?hsx1o ?hfx1o ?hrx1o ?hQx1o (Or.inl ⟨?hwx1o, ?hyx1o⟩) hS ?restx1o
    case h1x1o => (simp only [List.getElem?_toArray, List.getElem?_cons_succ, List.getElem?_cons_zero]; rfl)
    case hsx1o | hfx1o | hrx1o => kernel_rfl
    case hQx1o => exact fun _ _ _ h => h
    case hwx1o => rfl
    case hyx1o =>
      intro W hW
      go_simp
      try with_reducible rfl
    simp only [Act.put, List.setIfInBounds_toArray, List.set_cons_succ, List.set_cons_zero]
    refine' wpAnyH_take (i := 7) ?h1x7o ?hsx7o ?hfx7o ?hrx7o ?hQx7o (yieldsIf_load_at ?hwx7o 24 (.tmp 46) ?hopx7o w.heap.size 1 rfl ZC.toArray _ (fun W hW => RNG.out W hW) Tryd.underlying24 rfl ?hix7o) hS ?restx7o
    case h1x7o => (simp only [List.getElem?_toArray, List.getElem?_cons_succ, List.getElem?_cons_zero]; rfl)
    case hopx7o => rfl
    case hsx7o | hfx7o | hrx7o => kernel_rfl
    case hQx7o => exact fun _ _ _ h => h
    case hwx7o => rfl
    case hix7o => exact I24B.out
    simp only [Act.put, List.setIfInBounds_toArray, List.set_cons_succ, List.set_cons_zero]
    refine' wpAnyH_take (i := 2) ?h1x2o ?hsx2o ?hfx2o ?hrx2o ?hQx2o (Or.inl ⟨?hwx2o, ?hyx2o⟩) hS ?restx2o
    case h1x2o => (simp only [List.getElem?_toArray, List.getElem?_cons_succ, List.getElem?_cons_zero]; rfl)
    case hsx2o | hfx2o | hrx2o => kernel_rfl
    case hQx2o => exact fun _ _ _ h => h
    case hwx2o => rfl
    case hyx2o =>
      intro W hW
      go_simp
      try with_reducible rfl
    simp only [Act.put, List.setIfInBounds_toArray, List.set_cons_succ, List.set_cons_zero]
    refine' wpAnyH_take (i := 3) ?h1x3o ?hsx3o ?hfx3o ?hrx3o ?hQx3o (Or.inl ⟨?hwx3o, ?hyx3o⟩) hS ?restx3o
    case h1x3o => (simp only [List.getElem?_toArray, List.getElem?_cons_succ, List.getElem?_cons_zero]; rfl)
    case hsx3o | hfx3o | hrx3o => kernel_rfl
    case hQx3o => exact fun _ _ _ h => h
    case hwx3o => rfl
    case hyx3o =>
      intro W hW
      have dd := (PLM.out W hW).c2
      go_simp
      try with_reducible rfl
    simp only [Act.put, List.setIfInBounds_toArray, List.set_cons_succ, List.set_cons_zero]
    refine wpAnyH_ready (rs := [5]) (by kernel_rfl) (by simp) ?_
    refine' (AllReadyH.cons ?hoc5o (fun K hK => ?stc5o) AllReadyH.nil)
    case hoc5o => (simp only [List.getElem?_toArray, List.getElem?_cons_succ, List.getElem?_cons_zero]; rfl)
    go_simp
    refine (SUM.out Ws H.out V8.out).mono ?_
    rintro e w4 ⟨rfl, hlg, hm⟩
    have H4 := Lib.hid (H.out.log hlg hm)
    have V4 : Hid (dk.TX w4 (.slice (some ⟨q, 0, none⟩) 512 512) (dk.tx y)) := by
      obtain ⟨b, e1, e2⟩ := V8.out
      injection e1 with e1
      injection e1 with e1
      injection e1 with e1
      subst e1
      exact ⟨_, by rw [dk.tx_len], (hm.block _ (blk_lt e2) (fun e => by have := SWN.out _ e; have := QW.out; omega)).trans e2⟩
    have QL : Hid (q < Ws.heap.size) := by
      obtain ⟨b, e1, e2⟩ := V8.out
      injection e1 with e1
      injection e1 with e1
      injection e1 with e1
      subst e1
      exact blk_lt e2
    have ZW : Hid (w.heap.size ≤ Ws.heap.size) := Nat.le_trans B5.out.size hS.size
    have hS4 := hS.trans (dkh hm) (fun b hb => .inl hb)
    clear H V8 hlg hm
    go_wp2_with fail
    refine hK.out _ _ hS4 (fun hHeld => ?_)
    clear hK K hS4
    try simp only [Act.put, List.setIfInBounds_toArray, List.set_cons_succ, List.set_cons_zero]
    clear hS
    have hS := hHeld
    clear hHeld
    refine' wpAnyH_take (i := 8) ?h1x8ox5 ?hsx8ox5 ?hfx8ox5 ?hrx8ox5 ?hQx8ox5 (Or.inl ⟨?hwx8ox5, ?hyx8ox5⟩) hS ?restx8ox5
    case h1x8ox5 => (simp only [List.getElem?_toArray, List.getElem?_cons_succ, List.getElem?_cons_zero]; rfl)
    case hsx8ox5 | hfx8ox5 | hrx8ox5 => kernel_rfl
    case hQx8ox5 => exact fun _ _ _ h => h
    case hwx8ox5 => rfl
    case hyx8ox5 =>
      intro W hW
      have dd := EQ.out W
      go_simp
      try with_reducible rfl
    simp only [Act.put, List.setIfInBounds_toArray, List.set_cons_succ, List.set_cons_zero]
    refine wpAnyH_done (by kernel_rfl) ?_ _
    go_wp2_with fail
    refine PPe.out _ _ ⟨q, _, rfl, V4.out, QW.out, fun e => ?_, H4.out, fun q' e => ?_, (dk.Mods.of_below B5.out).trans hS (fun b hb => .inl hb)⟩
    · rcases e with e | e
      · have := SWN.out _ e; have := QW.out; omega
      · have := QL.out; omega
    · rcases e with e | e
      · exact .inl e
      · have := ZW.out; exact .inr (by omega)
end Go.Proofs.YtjdamlmoegippaaDoor.pl
