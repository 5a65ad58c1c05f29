/-
  The fixed calls that each law of package casematelaw18 makes. Condition: the two tables of package sha stand in memory.
-/
import Derived.Test.YtjdamlmoegippaaDoorPlW
namespace Go.Proofs.YtjdamlmoegippaaDoor.pl
open Go.RowKit
theorem alloc_setRowD (w : World) (o cs : Array Value) (t : TypeId) (g : Nat) (hg : w.heap.size = g) : (w.alloc (.cells o t)).setRow g cs = w.alloc (.cells cs t) := by
  subst hg
  cases w with
  | mk heap tape drawn os output =>
    simp only [World.setRow, World.alloc]
    congr 1
    apply Array.ext
    · simp
    · intro k h1 h2
      simp only [Array.getElem_modify, Array.getElem_push]
      split
      · rename_i hk; subst hk; simp
      · rename_i hk
        have : k < heap.size := by simp at h1; omega
        simp [this]
theorem wpList_alloc_zD {ops : Array Oper} {rest : List Oper} {o : Oper} {a : Act} {w : World} {Q : Exit → Act → World → Prop} (hgd : o.guard = none) (t : TypeId) (ho : o.op = .alloc t) {cs : Array Value} (hz : (zeroValue t).run Tryd.prog w = .ok (.agg cs) w)
    (h : wpList Tryd.prog ops Q rest (a.put o.dst (.pointer (some ⟨w.heap.size, 0, none⟩))) (w.alloc (.cells cs t))) : wpList Tryd.prog ops Q (o :: rest) a w := by
  refine wpList_plain hgd fun K hK => ?_
  unfold Oper.wp
  simp [execOp, ho, Instr.alloc, hz, Result.andThen, Oper.upon]
  exact hK _ _ h
def AliveP (w : World) (e : Ending) (w' : World) : Prop := e = .returned (.bool true) ∧ Below w.heap.size w w'
theorem PW.nOth {w : World} {A : PA} {D : DS} {s : ex.St} {S : Nat → Prop} {T : List (List Int)} {r : Nat} {cs : Array Value} (h : PW w A D s S T) (hr : w.heap[r]? = some (.cells cs 26 (0, 0))) (hS : ¬ S r) : ¬ Oth A D S r := fun hk => by
  rcases hk with hk | hk | hk
  · exact dk.pv.DK.not h.dk hr (by decide) (by decide) hk
  · rcases hk with rfl | rfl | rfl
    · exact row_ne (ex.FD.blk h.fd) hr (by decide) rfl
    · obtain ⟨es, c, h1⟩ := (ex.FD.row h.fd).map.isMap
      rw [hr] at h1; cases h1
    · obtain ⟨cs', wd, h1, _⟩ := (ex.FD.row h.fd).wds
      exact row_ne h1 hr (by decide) rfl
  · exact hS hk
/-- What a call of a pool leaves of the world below. -/
theorem PW.fram {w0 w w' : World} {A : PA} {D : DS} {s : ex.St} {S Q : Nat → Prop} {T : List (List Int)} (h : PW w A D s S T) (hb : Below A.B w0 w) (m : dk.Mods Q w w') (hQ : ∀ k, Q k → Oth A D S k) : Below A.B w0 w' :=
  dk.Mods.below hb m h.bb.2 (fun k hk => h.oth k (hQ k hk))
set_option maxRecDepth 100000 in
set_option maxHeartbeats 8000000 in
theorem alive (w : World) (hG : hl.Glob w) : Calls Tryd.prog 11 #[] w (AliveP w) := by
  have HG := Lib.hid hG
  have ND : Hid (Calls Tryd.prog 29 #[.int .i64 9] w (dk.pv.NewDP (fun _ => False) w 9)) := dk.pv.newD 9 (by omega) (by omega) w
  have hz0 := zr_rl
  have z := z26
  obtain ⟨Z, hZ⟩ : ∃ Z, Z = zr := ⟨_, rfl⟩
  have i0 := i26
  have o0 := o26
  rw [← hZ] at z i0 o0
  have HZ := Lib.hid z
  have IZ := Lib.hid i0
  have OZ := Lib.hid o0
  have HZE := Lib.hid hZ
  clear hG hz0 z i0 o0 hZ
  go_enter Tryd.func11, Tryd.ntmps11
  go_wp2_with fail
  refine ND.out.mono ?_
  rintro e w1 ⟨gd, sb, hb, rfl, hdk, d1, d2, d3, hb1⟩
  have D1 := Lib.hid hdk
  have DD := Lib.hid (⟨d1, d2, d3⟩ : w.heap.size ≤ gd ∧ w.heap.size ≤ sb ∧ w.heap.size ≤ hb)
  have B1 := Lib.hid hb1
  clear hdk d1 d2 d3 hb1 ND
  have NL : Hid (Calls Tryd.prog 30 #[] w1 (hl.NewLP w1)) := hl.newL w1 (by have := HG.out.lt; have := B1.out.size; omega)
  go_wp2_with fail
  refine NL.out.mono ?_
  rintro e w2 ⟨gl, rfl, hlg, _, hb2⟩
  have L2 := Lib.hid hlg
  have B2 := Lib.hid hb2
  clear hlg hb2 NL
  have NP : Hid (Calls Tryd.prog 10 #[.pointer (some ⟨gd, 0, none⟩), .int .i64 2, .int .i64 5, .pointer (some ⟨gl, 0, none⟩)] w2 (NewPP w2 gd 5 (.pointer (some ⟨gl, 0, none⟩)) 2)) := new_ok w2 (D1.out.below B2.out).old 2 5 (some ⟨gl, 0, none⟩) (by omega) (by omega) (by omega)
  go_wp2_with fail
  refine NP.out.mono ?_
  rintro e w3 ⟨p, gf, gb, rb, mb, wb, rfl, hpl, hfd, hs3, hb3⟩
  have H3 := Lib.hid (mkPW HG.out D1.out DD.out.1 DD.out.2.1 DD.out.2.2 B1.out L2.out B2.out hpl hfd hs3 hb3)
  have B3 : Hid (Below w.heap.size w w3) := (B1.out.trans (B2.out.mono B1.out.size)).trans (hb3.mono (Nat.le_trans B1.out.size B2.out.size))
  obtain ⟨S3, hS3⟩ : ∃ S3 : Nat → Prop, S3 = fun b => w1.heap.size ≤ b ∧ b < w1.heap.size + 2 := ⟨_, rfl⟩
  rw [← hS3] at H3
  obtain ⟨A, hA⟩ : ∃ A : PA, A = ⟨p, gd, sb, hb, gf, rb, mb, wb, gb, gl, 9, 2, 5, w.heap.size, fun _ => False⟩ := ⟨_, rfl⟩
  have AP : Hid (p = A.p) := by rw [hA]; rfl
  have AD : Hid (gd = A.gd) := by rw [hA]; rfl
  have AF : Hid (gf = A.gf) := by rw [hA]; rfl
  have AC : Hid (A.ct = 5 ∧ A.fr = 2 ∧ A.N = 9 ∧ A.B = w.heap.size) := by rw [hA]; exact ⟨rfl, rfl, rfl, rfl⟩
  rw [← hA] at H3
  clear hpl hfd hs3 hb3 hA hS3 D1 DD B1 L2 B2 NP HG
  have FX : Hid (∀ y W, y < 256 → Calls Tryd.prog 8 #[.int .u8 (y : Nat), .int .i64 0] W fun e w' => ∃ b, e = .returned (.slice (some ⟨b, 0, none⟩) 512 512) ∧ dk.TX w' (.slice (some ⟨b, 0, none⟩) 512 512) (dk.tx y) ∧ W.heap.size ≤ b ∧ Below W.heap.size W w') := fun y W h => fullX y W h
  have FX1 : Hid (Calls Tryd.prog 8 #[.int .u8 1, .int .i64 0] w3 fun e w' => ∃ b, e = .returned (.slice (some ⟨b, 0, none⟩) 512 512) ∧ dk.TX w' (.slice (some ⟨b, 0, none⟩) 512 512) (dk.tx 1) ∧ w3.heap.size ≤ b ∧ Below w3.heap.size w3 w') := FX.out 1 w3 (by decide)
  go_wp2_with fail
  refine FX1.out.mono ?_
  rintro e w4 ⟨b4, rfl, _, _, hb4⟩
  have H4 := Lib.hid (H3.out.below hb4)
  have B4 := Lib.hid (B3.out.trans (hb4.mono B3.out.size))
  clear hb4 H3 B3 FX1
  have PT : Hid (Calls Tryd.prog 7 #[.pointer (some ⟨p, 0, none⟩), .int .i64 1, .slice (some ⟨b4, 0, none⟩) 512 512] w4 (PutE w4 A D0 (51, s0) S3 [])) := by
    have hh := put_full H4.out 1 (some ⟨b4, 0, none⟩) 512 (by rw [AC.out.1, tak0]; decide)
    rw [AC.out.1, tak0, ← AP.out] at hh
    exact hh
  go_wp2_with fail
  refine PT.out.mono ?_
  rintro e w5 ⟨rfl, hp5, hm5⟩
  rw [← HZE.out]
  have B5 := Lib.hid (AC.out.2.2.2 ▸ H4.out.fram (by rw [AC.out.2.2.2]; exact B4.out) hm5 (fun _ h => h) : Below w.heap.size w w5)
  have H5 := Lib.hid hp5
  clear hp5 hm5 H4 B4 PT
  obtain ⟨w6, hw6⟩ : ∃ w6, w6 = w5.alloc (.cells Z 26) := ⟨_, rfl⟩
  have RNw6 : Hid ((w5.alloc (.cells Z 26)).setRow w5.heap.size Z = w6) := by show _ = _; rw [hw6]; exact alloc_setRowD w5 Z Z 26 _ rfl
  have GNw6 : Hid ((w5.alloc (.cells Z 26)).heap[w5.heap.size]? = some (.cells Z 26 (0, 0))) := heap_alloc_new w5 _
  have hbw6 : Below w5.heap.size w5 w6 := by rw [hw6]; exact (Below.refl _ _).alloc (Nat.le_refl _) _
  have Gw6 : Hid (w6.heap[w5.heap.size]? = some (.cells Z 26 (0, 0))) := by show _ = _; rw [hw6]; exact heap_alloc_new w5 _
  have H6 := Lib.hid (H5.out.below hbw6)
  have B6 := Lib.hid (B5.out.trans (hbw6.mono B5.out.size))
  clear hw6 hbw6 H5 B5 Gw6
  go_upto_region 6 with (first | (refine wpList_alloc_zD rfl 26 rfl (HZ.out _) ?_; refine wpList_store_row rfl 26 (.tmp 5) (.tmp 34) rfl w5.heap.size Z rfl rfl 26 Z GNw6.out IZ.out rfl OZ.out ?_; rw [RNw6.out]))
  clear RNw6 GNw6
  have FLD : Hid (Calls Tryd.prog 12 #[.pointer (some ⟨p, 0, none⟩)] w6 fun e w' => e = .returned (.pointer (some ⟨gf, 0, none⟩)) ∧ w6 = w') := by
    rw [AP.out, AF.out]
    exact field H6.out.pool
  go_wp2_with fail
  refine FLD.out.mono ?_
  rintro e w' ⟨rfl, rfl⟩
  have AD1 : Hid (Calls Tryd.prog 31 #[.pointer (some ⟨gf, 0, none⟩), .int .i64 1, .int .i64 1, .int .i64 2] w6 fun e w' => e = .returned (.int .i64 0) ∧ ex.FS w' A.gf A.rb A.mb A.wb A.ct s1 ∧ ex.Mods (ex.Ft A.gf A.mb A.wb) w6 w') := by
    have hh := ex.admS H6.out.fd 1 1 2
    unfold ex.CS at hh
    rw [AC.out.1, adm0] at hh
    rw [AF.out, AC.out.1]
    exact hh
  go_wp2_with fail
  refine AD1.out.mono ?_
  rintro e w7 ⟨rfl, hf7, hm7⟩
  have B7 := Lib.hid (AC.out.2.2.2 ▸ H6.out.fram (by rw [AC.out.2.2.2]; exact B6.out) (dkm hm7) (fun _ h => .inr (.inl h)) : Below w.heap.size w w7)
  have H7 := Lib.hid (H6.out.field hf7 hm7)
  clear hf7 hm7 H6 B6 FLD AD1
  have FX7 : Hid (Calls Tryd.prog 8 #[.int .u8 7, .int .i64 0] w7 fun e w' => ∃ b, e = .returned (.slice (some ⟨b, 0, none⟩) 512 512) ∧ dk.TX w' (.slice (some ⟨b, 0, none⟩) 512 512) (dk.tx 7) ∧ w7.heap.size ≤ b ∧ Below w7.heap.size w7 w') := FX.out 7 w7 (by decide)
  go_wp2_with fail
  refine FX7.out.mono ?_
  rintro e w8 ⟨b8, rfl, hv8, hl8, hb8⟩
  have H8 := Lib.hid (H7.out.below hb8)
  have B8 := Lib.hid (B7.out.trans (hb8.mono B7.out.size))
  have V8 := Lib.hid hv8
  have NV8 : Hid (¬ S3 b8) := fun e => by have := H7.out.lg.own _ e; omega
  clear hb8 H7 B7 FX7 hv8 hl8
  obtain ⟨z7, hz7⟩ : ∃ z7, z7 = hl.sha (bI 7) := ⟨_, rfl⟩
  have PO : Hid (Calls Tryd.prog 7 #[.pointer (some ⟨p, 0, none⟩), .int .i64 1, .slice (some ⟨b8, 0, none⟩) 512 512] w8 fun e w' => ∃ (wv' : Value) (S' : Nat → Prop), e = .returned (.tuple #[.agg (rl 0 z7).toArray, .int .i64 0]) ∧
      PW w' A ⟨wv', fun _ => none, [(2, 7)], rg0, 1, -1, false, 1⟩ (ex.sTak 5 s1 1).2 S' [bI 7] ∧ (∀ q, S' q → S3 q ∨ w8.heap.size ≤ q) ∧ dk.Mods (Oth A D0 S3) w8 w') := by
    have hh := put_ok H8.out 1 (.slice (some ⟨b8, 0, none⟩) 512 512) 7 V8.out (dk.yb 7) (fun b hb => by
      have e9 : b8 = b := Option.some.inj hb
      rw [← e9]
      exact NV8.out) (by rw [AC.out.1]; exact tak1) 0 (by rw [AC.out.1]; exact xtak1) (by rw [AC.out.1]; omega) rfl rfl (by decide) (by decide) (by decide) (by rw [AC.out.1, AC.out.2.1, AC.out.2.2.1]; omega) (by decide)
    rw [AC.out.1, ← AP.out] at hh
    refine hh.mono fun e w' hq => ?_
    obtain ⟨wv', S', h1, h2, h3, h4⟩ := hq
    rw [← hz7] at h1
    rw [AC.out.2.1, addA] at h2
    exact ⟨wv', S', h1, h2, h3, h4⟩
  go_wp2_with fail
  refine PO.out.mono ?_
  rintro e w9 ⟨wv9, S9, rfl, hp9, hs9, hm9⟩
  have B9 := Lib.hid (AC.out.2.2.2 ▸ H8.out.fram (by rw [AC.out.2.2.2]; exact B8.out) hm9 (fun _ h => h) : Below w.heap.size w w9)
  have H9 := Lib.hid hp9
  have l7 : z7.length = 32 := by rw [hz7]; exact hl.sha_len _ (bI_byt trivial)
  have ic := irl 0 l7
  have oc := orl 0 z7
  have CR : Hid (∀ W : World, W.heap[w9.heap.size]? = some (.cells (rl 0 z7).toArray 26 (0, 0)) → W.cell? ⟨w9.heap.size, 0, none⟩ = some (.int .u32 0)) := fun W hh => by rw [cell_row hh]; rfl
  obtain ⟨C, hC⟩ : ∃ C, C = (rl 0 z7).toArray := ⟨_, rfl⟩
  rw [← hC] at ic oc CR ⊢
  have IC := Lib.hid ic
  have OC := Lib.hid oc
  have IZC : Hid (Z.size = C.size) := Option.some.inj (IZ.out.symm.trans ic)
  have HC := Lib.hid hC
  have HZ7 := Lib.hid hz7
  have L7 := Lib.hid l7
  clear hp9 hs9 hm9 H8 B8 V8 NV8 PO ic oc hC hz7 l7
  obtain ⟨wa, hwa⟩ : ∃ wa, wa = w9.alloc (.cells C 26) := ⟨_, rfl⟩
  have RNwa : Hid ((w9.alloc (.cells Z 26)).setRow w9.heap.size C = wa) := by show _ = _; rw [hwa]; exact alloc_setRowD w9 Z C 26 _ rfl
  have GNwa : Hid ((w9.alloc (.cells Z 26)).heap[w9.heap.size]? = some (.cells Z 26 (0, 0))) := heap_alloc_new w9 _
  have hbwa : Below w9.heap.size w9 wa := by rw [hwa]; exact (Below.refl _ _).alloc (Nat.le_refl _) _
  have Gwa : Hid (wa.heap[w9.heap.size]? = some (.cells C 26 (0, 0))) := by show _ = _; rw [hwa]; exact heap_alloc_new w9 _
  have Ha := Lib.hid (H9.out.below hbwa)
  have Ba := Lib.hid (B9.out.trans (hbwa.mono B9.out.size))
  have NSa : Hid (¬ S9 w9.heap.size) := fun e => by have := H9.out.lg.own _ e; omega
  clear hwa hbwa H9 B9
  go_upto_region 8 with (first | (refine wpList_alloc_zD rfl 26 rfl (HZ.out _) ?_; refine wpList_store_row rfl 26 (.tmp 8) (.tmp 43) rfl w9.heap.size C rfl rfl 26 Z GNwa.out IC.out IZC.out OC.out ?_; rw [RNwa.out]))
  clear RNwa GNwa
  have GT1 : Hid (Calls Tryd.prog 9 #[.pointer (some ⟨p, 0, none⟩), .agg C] wa fun e w' => ∃ (q : Nat) (S' : Nat → Prop), e = .returned (.tuple #[.slice (some ⟨q, 0, none⟩) 512 512, .int .i64 0]) ∧ dk.TX w' (.slice (some ⟨q, 0, none⟩) 512 512) (dk.tx 7) ∧ ¬ S' q ∧
      PW w' A ⟨wv9, fun _ => none, [(2, 7)], rg0, 1, -1, false, 1⟩ (ex.sTak 5 s1 1).2 S' [bI 7] ∧ (∀ q, S' q → S9 q ∨ wa.heap.size ≤ q) ∧ dk.Mods S9 wa w') := by
    have hh := get_any Ha.out 0 z7 (by rw [HZ7.out]; exact hl.sha_byt _) L7.out (by rw [AC.out.1]; omega) 7 (by rw [AC.out.2.1]; rfl) (dk.yb 7) rfl (by rw [AC.out.1, AC.out.2.1, AC.out.2.2.1]; omega) (by decide)
    rw [← HC.out, ← AP.out] at hh
    refine hh.mono fun e w' hq => ?_
    obtain ⟨q, S', h1, h2, _, h4, h5, h6, h7⟩ := hq
    rw [if_pos HZ7.out.symm] at h1
    rw [addB] at h5
    exact ⟨q, S', h1, h2, h4, h5, h6, h7⟩
  go_wp2_with (first | (refine wpList_load_row rfl 26 (.tmp 8) rfl w9.heap.size rfl 26 C (0, 0) _ Gwa.out Tryd.underlying26 rfl IC.out ?_))
  refine GT1.out.mono ?_
  rintro e wb ⟨q, Sb, rfl, hvq, hnq, hpb, hsb, hmb⟩
  have Bb := Lib.hid (AC.out.2.2.2 ▸ Ha.out.fram (by rw [AC.out.2.2.2]; exact Ba.out) hmb (fun _ h => .inr (.inr h)) : Below w.heap.size w wb)
  have Hb := Lib.hid hpb
  have Gb := Lib.hid ((hmb.block _ (blk_lt Gwa.out) NSa.out).trans Gwa.out)
  have NSb : Hid (¬ Sb w9.heap.size) := fun e => by
    rcases hsb _ e with h | h
    · exact NSa.out h
    · have := blk_lt Gwa.out; omega
  have Vb := Lib.hid hvq
  have NQ := Lib.hid hnq
  clear hvq hnq hpb hsb hmb Ha Ba Gwa NSa GT1
  have FX8 : Hid (Calls Tryd.prog 8 #[.int .u8 8, .int .i64 0] wb fun e w' => ∃ b, e = .returned (.slice (some ⟨b, 0, none⟩) 512 512) ∧ dk.TX w' (.slice (some ⟨b, 0, none⟩) 512 512) (dk.tx 8) ∧ wb.heap.size ≤ b ∧ Below wb.heap.size wb w') := FX.out 8 wb (by decide)
  go_wp2_with fail
  refine FX8.out.mono ?_
  rintro e wc ⟨bc, rfl, hvc, _, hbc⟩
  have Hc := Lib.hid (Hb.out.below hbc)
  have Bc := Lib.hid (Bb.out.trans (hbc.mono Bb.out.size))
  have Gc := Lib.hid ((hbc.block _ (blk_lt Gb.out)).trans Gb.out)
  have Vc := Lib.hid (dk.TX.below Vb.out hbc)
  have TM : Hid (Calls Tryd.prog 16 #[.pointer (some ⟨gd, 0, none⟩), .int .u32 2, .slice (some ⟨bc, 0, none⟩) 512 512] wc fun e w' => ∃ wv', e = .returned (.int .i64 0) ∧ PW w' A ⟨wv', dk.putS (fun _ => none) 2 8, dk.rest 2 [(2, 7)], rg0, 1, -1, false, 2⟩ (ex.sTak 5 s1 1).2 Sb [bI 7] ∧ dk.Mods (Dts A ⟨wv9, fun _ => none, [(2, 7)], rg0, 1, -1, false, 1⟩) wc w') := by
    have hh := tamper Hc.out 2 8 (.slice (some ⟨bc, 0, none⟩) 512 512) (by rw [AC.out.2.2.1]; omega) hvc.sx5 (dk.yb 8) (by show 1 < 1000000; omega)
    rw [← AD.out] at hh
    exact hh
  clear hvc hbc Hb Bb Gb Vb FX8
  go_wp2_with fail
  refine TM.out.mono ?_
  rintro e wd ⟨wvd, rfl, hpd, hmd⟩
  have Bd := Lib.hid (AC.out.2.2.2 ▸ Hc.out.fram (by rw [AC.out.2.2.2]; exact Bc.out) hmd (fun _ h => .inl h) : Below w.heap.size w wd)
  have Hd := Lib.hid hpd
  have Gd := Lib.hid ((hmd.block _ (blk_lt Gc.out) (fun e => Hc.out.nOth Gc.out NSb.out (.inl e))).trans Gc.out)
  have Vd := Lib.hid (dk.TX.mods Vc.out hmd (fun b cs hc hd => (dk.pv.DK.kinds Hc.out.dk).1 b cs hc hd))
  clear hpd hmd Hc Bc Gc Vc TM
  have GT2 : Hid (Calls Tryd.prog 9 #[.pointer (some ⟨p, 0, none⟩), .agg C] wd fun e w' => ∃ S', e = .returned (.tuple #[.slice none 0 0, .int .i64 40]) ∧
      PW w' A ⟨wvd, dk.putS (fun _ => none) 2 8, dk.rest 2 [(2, 7)], rg0, 1, -1, false, 2⟩ (ex.sTak 5 s1 1).2 S' [bI 7, bI 8] ∧ dk.Mods Sb wd w') := by
    have hh := get_any Hd.out 0 z7 (by rw [HZ7.out]; exact hl.sha_byt _) L7.out (by rw [AC.out.1]; omega) 8 (by rw [AC.out.2.1]; rfl) (dk.yb 8) rfl (by rw [AC.out.1, AC.out.2.1, AC.out.2.2.1]; omega) (by decide)
    rw [← HC.out, ← AP.out] at hh
    refine hh.mono fun e w' hq => ?_
    obtain ⟨q, S', h1, _, _, _, h5, _, h7⟩ := hq
    rw [if_neg (by rw [HZ7.out]; exact fun e => sha78 e.symm)] at h1
    rw [addC] at h5
    exact ⟨S', h1, h5, h7⟩
  go_wp2_with (first | (refine wpList_load_row rfl 26 (.tmp 8) rfl w9.heap.size rfl 26 C (0, 0) _ Gd.out Tryd.underlying26 rfl IC.out ?_))
  refine GT2.out.mono ?_
  rintro e we ⟨Se, rfl, hpe, hme⟩
  have Be := Lib.hid (AC.out.2.2.2 ▸ Hd.out.fram (by rw [AC.out.2.2.2]; exact Bd.out) hme (fun _ h => .inr (.inr h)) : Below w.heap.size w we)
  have He := Lib.hid hpe
  have Ge := Lib.hid ((hme.block _ (blk_lt Gd.out) NSb.out).trans Gd.out)
  have Ve : Hid (dk.TX we (.slice (some ⟨q, 0, none⟩) 512 512) (dk.tx 7)) := by
    obtain ⟨b, e1, e2⟩ := Vd.out
    have e9 : q = b := by injection e1 with e1; injection e1 with e1; injection e1
    subst e9
    exact ⟨_, by rw [dk.tx_len], (hme.block _ (blk_lt e2) NQ.out).trans e2⟩
  clear hpe hme Hd Bd Gd Vd GT2 NSb NQ
  have CL : Hid (∀ W, Below we.heap.size we W → Calls Tryd.prog 13 #[.pointer (some ⟨p, 0, none⟩)] W fun e w' => e = .returned (.bool false) ∧ W = w') := fun W hh => by
    rw [AP.out]
    exact clash_none (He.out.below hh) clkC
  have CV : Hid (∀ W b, dk.TX W (.slice (some ⟨b, 0, none⟩) 512 512) (dk.tx 7) → (convert 37 9 (.slice (some ⟨b, 0, none⟩) 512 512)).run Tryd.prog W = .ok (.string (strOfNums (bI 7))) W) := fun W b hv => (tx_sees hv (by omega)).str
  have FX9 : Hid (∀ W, Calls Tryd.prog 8 #[.int .u8 7, .int .i64 0] W fun e w' => ∃ b, e = .returned (.slice (some ⟨b, 0, none⟩) 512 512) ∧ dk.TX w' (.slice (some ⟨b, 0, none⟩) 512 512) (dk.tx 7) ∧ W.heap.size ≤ b ∧ Below W.heap.size W w') := fun W => FX.out 7 W (by decide)
  clear FX
  generalize strOfNums (bI 7) = SX at CV
  go_upto_region 11 with (fail)
  refine wp_region_held_drew (S := fun W => Below we.heap.size we W) (by kernel_rfl) ((Below.refl _ _).drew) (fun hS => ?_)
  have hb0 : Below we.heap.size we we.drew := (Below.refl _ _).drew
  clear hb0 
  generalize we.drew = Wks at hS  ⊢
  refine' wpAnyH_take (i := 0) ?h1x0k ?hsx0k ?hfx0k ?hrx0k ?hQx0k (Or.inl ⟨?hwx0k, ?hyx0k⟩) hS ?restx0k
  case h1x0k => (simp only [List.getElem?_toArray, List.getElem?_cons_zero]; rfl)
  case hsx0k | hfx0k | hrx0k => kernel_rfl
  case hQx0k => exact fun _ _ _ h => h
  case hwx0k => rfl
  case hyx0k =>
    intro W hW
    go_simp
    try with_reducible rfl
  simp only [Act.put, List.setIfInBounds_toArray, List.set_cons_succ, List.set_cons_zero]
  refine' wpAnyH_take (i := 1) ?h1x1k ?hsx1k ?hfx1k ?hrx1k ?hQx1k (Or.inl ⟨?hwx1k, ?hyx1k⟩) hS ?restx1k
  case h1x1k => (simp only [List.getElem?_toArray, List.getElem?_cons_succ, List.getElem?_cons_zero]; rfl)
  case hsx1k | hfx1k | hrx1k => kernel_rfl
  case hQx1k => exact fun _ _ _ h => h
  case hwx1k => rfl
  case hyx1k =>
    intro W hW
    go_simp
    try with_reducible rfl
  simp only [Act.put, List.setIfInBounds_toArray, List.set_cons_succ, List.set_cons_zero]
  refine' wpAnyH_take (i := 2) ?h1x2k ?hsx2k ?hfx2k ?hrx2k ?hQx2k (Or.inl ⟨?hwx2k, ?hyx2k⟩) hS ?restx2k
  case h1x2k => (simp only [List.getElem?_toArray, List.getElem?_cons_succ, List.getElem?_cons_zero]; rfl)
  case hsx2k | hfx2k | hrx2k => kernel_rfl
  case hQx2k => exact fun _ _ _ h => h
  case hwx2k => rfl
  case hyx2k =>
    intro W hW
    go_simp
    try with_reducible rfl
  simp only [Act.put, List.setIfInBounds_toArray, List.set_cons_succ, List.set_cons_zero]
  refine' wpAnyH_take (i := 3) ?h1x3k ?hsx3k ?hfx3k ?hrx3k ?hQx3k (Or.inl ⟨?hwx3k, ?hyx3k⟩) hS ?restx3k
  case h1x3k => (simp only [List.getElem?_toArray, List.getElem?_cons_succ, List.getElem?_cons_zero]; rfl)
  case hsx3k | hfx3k | hrx3k => kernel_rfl
  case hQx3k => exact fun _ _ _ h => h
  case hwx3k => rfl
  case hyx3k =>
    intro W hW
    go_simp
    try with_reducible rfl
  simp only [Act.put, List.setIfInBounds_toArray, List.set_cons_succ, List.set_cons_zero]
  refine' wpAnyH_take (i := 4) ?h1x4k ?hsx4k ?hfx4k ?hrx4k ?hQx4k (Or.inl ⟨?hwx4k, ?hyx4k⟩) hS ?restx4k
  case h1x4k => (simp only [List.getElem?_toArray, List.getElem?_cons_succ, List.getElem?_cons_zero]; rfl)
  case hsx4k | hfx4k | hrx4k => kernel_rfl
  case hQx4k => exact fun _ _ _ h => h
  case hwx4k => rfl
  case hyx4k =>
    intro W hW
    go_simp
    try with_reducible rfl
  simp only [Act.put, List.setIfInBounds_toArray, List.set_cons_succ, List.set_cons_zero]
  refine' wpAnyH_take (i := 5) ?h1x5k ?hsx5k ?hfx5k ?hrx5k ?hQx5k (Or.inl ⟨?hwx5k, ?hyx5k⟩) hS ?restx5k
  case h1x5k => (simp only [List.getElem?_toArray, List.getElem?_cons_succ, List.getElem?_cons_zero]; rfl)
  case hsx5k | hfx5k | hrx5k => kernel_rfl
  case hQx5k => exact fun _ _ _ h => h
  case hwx5k => rfl
  case hyx5k =>
    intro W hW
    go_simp
    try with_reducible rfl
  simp only [Act.put, List.setIfInBounds_toArray, List.set_cons_succ, List.set_cons_zero]
  refine' wpAnyH_take (i := 6) ?h1x6k ?hsx6k ?hfx6k ?hrx6k ?hQx6k (Or.inl ⟨?hwx6k, ?hyx6k⟩) hS ?restx6k
  case h1x6k => (simp only [List.getElem?_toArray, List.getElem?_cons_succ, List.getElem?_cons_zero]; rfl)
  case hsx6k | hfx6k | hrx6k => kernel_rfl
  case hQx6k => exact fun _ _ _ h => h
  case hwx6k => rfl
  case hyx6k =>
    intro W hW
    go_simp
    try with_reducible rfl
  simp only [Act.put, List.setIfInBounds_toArray, List.set_cons_succ, List.set_cons_zero]
  refine' wpAnyH_take (i := 7) ?h1x7k ?hsx7k ?hfx7k ?hrx7k ?hQx7k (Or.inl ⟨?hwx7k, ?hyx7k⟩) hS ?restx7k
  case h1x7k => (simp only [List.getElem?_toArray, List.getElem?_cons_succ, List.getElem?_cons_zero]; rfl)
  case hsx7k | hfx7k | hrx7k => kernel_rfl
  case hQx7k => exact fun _ _ _ h => h
  case hwx7k => rfl
  case hyx7k =>
    intro W hW
    go_simp
    try with_reducible rfl
  simp only [Act.put, List.setIfInBounds_toArray, List.set_cons_succ, List.set_cons_zero]
  refine' wpAnyH_take (i := 8) ?h1x8k ?hsx8k ?hfx8k ?hrx8k ?hQx8k (Or.inl ⟨?hwx8k, ?hyx8k⟩) hS ?restx8k
  case h1x8k => (simp only [List.getElem?_toArray, List.getElem?_cons_succ, List.getElem?_cons_zero]; rfl)
  case hsx8k | hfx8k | hrx8k => kernel_rfl
  case hQx8k => exact fun _ _ _ h => h
  case hwx8k => rfl
  case hyx8k =>
    intro W hW
    go_simp
    try with_reducible rfl
  simp only [Act.put, List.setIfInBounds_toArray, List.set_cons_succ, List.set_cons_zero]
  refine' wpAnyH_take (i := 9) ?h1x9k ?hsx9k ?hfx9k ?hrx9k ?hQx9k (Or.inl ⟨?hwx9k, ?hyx9k⟩) hS ?restx9k
  case h1x9k => (simp only [List.getElem?_toArray, List.getElem?_cons_succ, List.getElem?_cons_zero]; rfl)
  case hsx9k | hfx9k | hrx9k => kernel_rfl
  case hQx9k => exact fun _ _ _ h => h
  case hwx9k => rfl
  case hyx9k =>
    intro W hW
    go_simp
    try with_reducible rfl
  simp only [Act.put, List.setIfInBounds_toArray, List.set_cons_succ, List.set_cons_zero]
  refine' wpAnyH_take (i := 10) ?h1x10k ?hsx10k ?hfx10k ?hrx10k ?hQx10k (Or.inl ⟨?hwx10k, ?hyx10k⟩) hS ?restx10k
  case h1x10k => (simp only [List.getElem?_toArray, List.getElem?_cons_succ, List.getElem?_cons_zero]; rfl)
  case hsx10k | hfx10k | hrx10k => kernel_rfl
  case hQx10k => exact fun _ _ _ h => h
  case hwx10k => rfl
  case hyx10k =>
    intro W hW
    go_simp
    try with_reducible rfl
  simp only [Act.put, List.setIfInBounds_toArray, List.set_cons_succ, List.set_cons_zero]
  refine' wpAnyH_take (i := 11) ?h1x11k ?hsx11k ?hfx11k ?hrx11k ?hQx11k (Or.inl ⟨?hwx11k, ?hyx11k⟩) hS ?restx11k
  case h1x11k => (simp only [List.getElem?_toArray, List.getElem?_cons_succ, List.getElem?_cons_zero]; rfl)
  case hsx11k | hfx11k | hrx11k => kernel_rfl
  case hQx11k => exact fun _ _ _ h => h
  case hwx11k => rfl
  case hyx11k =>
    intro W hW
    go_simp
    try with_reducible rfl
  simp only [Act.put, List.setIfInBounds_toArray, List.set_cons_succ, List.set_cons_zero]
  refine' wpAnyH_take (i := 12) ?h1x12k ?hsx12k ?hfx12k ?hrx12k ?hQx12k (Or.inl ⟨?hwx12k, ?hyx12k⟩) hS ?restx12k
  case h1x12k => (simp only [List.getElem?_toArray, List.getElem?_cons_succ, List.getElem?_cons_zero]; rfl)
  case hsx12k | hfx12k | hrx12k => kernel_rfl
  case hQx12k => exact fun _ _ _ h => h
  case hwx12k => rfl
  case hyx12k =>
    intro W hW
    have rr := (hW.block _ (blk_lt Ge.out)).trans Ge.out
    have dd := CR W rr
    go_simp
    try with_reducible rfl
  simp only [Act.put, List.setIfInBounds_toArray, List.set_cons_succ, List.set_cons_zero]
  refine' wpAnyH_take (i := 13) ?h1x13k ?hsx13k ?hfx13k ?hrx13k ?hQx13k (Or.inl ⟨?hwx13k, ?hyx13k⟩) hS ?restx13k
  case h1x13k => (simp only [List.getElem?_toArray, List.getElem?_cons_succ, List.getElem?_cons_zero]; rfl)
  case hsx13k | hfx13k | hrx13k => kernel_rfl
  case hQx13k => exact fun _ _ _ h => h
  case hwx13k => rfl
  case hyx13k =>
    intro W hW
    go_simp
    try with_reducible rfl
  simp only [Act.put, List.setIfInBounds_toArray, List.set_cons_succ, List.set_cons_zero]
  refine' wpAnyH_take (i := 14) ?h1x14k ?hsx14k ?hfx14k ?hrx14k ?hQx14k (Or.inl ⟨?hwx14k, ?hyx14k⟩) hS ?restx14k
  case h1x14k => (simp only [List.getElem?_toArray, List.getElem?_cons_succ, List.getElem?_cons_zero]; rfl)
  case hsx14k | hfx14k | hrx14k => kernel_rfl
  case hQx14k => exact fun _ _ _ h => h
  case hwx14k => rfl
  case hyx14k =>
    intro W hW
    go_simp
    try with_reducible rfl
  simp only [Act.put, List.setIfInBounds_toArray, List.set_cons_succ, List.set_cons_zero]
  refine' wpAnyH_take (i := 15) ?h1x15k ?hsx15k ?hfx15k ?hrx15k ?hQx15k (Or.inl ⟨?hwx15k, ?hyx15k⟩) hS ?restx15k
  case h1x15k => (simp only [List.getElem?_toArray, List.getElem?_cons_succ, List.getElem?_cons_zero]; rfl)
  case hsx15k | hfx15k | hrx15k => kernel_rfl
  case hQx15k => exact fun _ _ _ h => h
  case hwx15k => rfl
  case hyx15k =>
    intro W hW
    go_simp
    try with_reducible rfl
  simp only [Act.put, List.setIfInBounds_toArray, List.set_cons_succ, List.set_cons_zero]
  refine' wpAnyH_take (i := 16) ?h1x16k ?hsx16k ?hfx16k ?hrx16k ?hQx16k (Or.inl ⟨?hwx16k, ?hyx16k⟩) hS ?restx16k
  case h1x16k => (simp only [List.getElem?_toArray, List.getElem?_cons_succ, List.getElem?_cons_zero]; rfl)
  case hsx16k | hfx16k | hrx16k => kernel_rfl
  case hQx16k => exact fun _ _ _ h => h
  case hwx16k => rfl
  case hyx16k =>
    intro W hW
    go_simp
    try with_reducible rfl
  simp only [Act.put, List.setIfInBounds_toArray, List.set_cons_succ, List.set_cons_zero]
  refine' wpAnyH_take (i := 17) ?h1x17k ?hsx17k ?hfx17k ?hrx17k ?hQx17k (Or.inl ⟨?hwx17k, ?hyx17k⟩) hS ?restx17k
  case h1x17k => (simp only [List.getElem?_toArray, List.getElem?_cons_succ, List.getElem?_cons_zero]; rfl)
  case hsx17k | hfx17k | hrx17k => kernel_rfl
  case hQx17k => exact fun _ _ _ h => h
  case hwx17k => rfl
  case hyx17k =>
    intro W hW
    go_simp
    try with_reducible rfl
  simp only [Act.put, List.setIfInBounds_toArray, List.set_cons_succ, List.set_cons_zero]
  refine' wpAnyH_take (i := 18) ?h1x18k ?hsx18k ?hfx18k ?hrx18k ?hQx18k (Or.inl ⟨?hwx18k, ?hyx18k⟩) hS ?restx18k
  case h1x18k => (simp only [List.getElem?_toArray, List.getElem?_cons_succ, List.getElem?_cons_zero]; rfl)
  case hsx18k | hfx18k | hrx18k => kernel_rfl
  case hQx18k => exact fun _ _ _ h => h
  case hwx18k => rfl
  case hyx18k =>
    intro W hW
    go_simp
    try with_reducible rfl
  simp only [Act.put, List.setIfInBounds_toArray, List.set_cons_succ, List.set_cons_zero]
  refine' wpAnyH_take (i := 19) ?h1x19k ?hsx19k ?hfx19k ?hrx19k ?hQx19k (Or.inl ⟨?hwx19k, ?hyx19k⟩) hS ?restx19k
  case h1x19k => (simp only [List.getElem?_toArray, List.getElem?_cons_succ, List.getElem?_cons_zero]; rfl)
  case hsx19k | hfx19k | hrx19k => kernel_rfl
  case hQx19k => exact fun _ _ _ h => h
  case hwx19k => rfl
  case hyx19k =>
    intro W hW
    go_simp
    try with_reducible rfl
  simp only [Act.put, List.setIfInBounds_toArray, List.set_cons_succ, List.set_cons_zero]
  refine' wpAnyH_take (i := 20) ?h1x20k ?hsx20k ?hfx20k ?hrx20k ?hQx20k (Or.inl ⟨?hwx20k, ?hyx20k⟩) hS ?restx20k
  case h1x20k => (simp only [List.getElem?_toArray, List.getElem?_cons_succ, List.getElem?_cons_zero]; rfl)
  case hsx20k | hfx20k | hrx20k => kernel_rfl
  case hQx20k => exact fun _ _ _ h => h
  case hwx20k => rfl
  case hyx20k =>
    intro W hW
    go_simp
    try with_reducible rfl
  simp only [Act.put, List.setIfInBounds_toArray, List.set_cons_succ, List.set_cons_zero]
  refine' wpAnyH_take (i := 21) ?h1x21k ?hsx21k ?hfx21k ?hrx21k ?hQx21k (Or.inl ⟨?hwx21k, ?hyx21k⟩) hS ?restx21k
  case h1x21k => (simp only [List.getElem?_toArray, List.getElem?_cons_succ, List.getElem?_cons_zero]; rfl)
  case hsx21k | hfx21k | hrx21k => kernel_rfl
  case hQx21k => exact fun _ _ _ h => h
  case hwx21k => rfl
  case hyx21k =>
    intro W hW
    have dd := CV.out W q (dk.TX.below Ve.out hW)
    go_simp
    try with_reducible rfl
  simp only [Act.put, List.setIfInBounds_toArray, List.set_cons_succ, List.set_cons_zero]
  refine wpAnyH_ready (rs := [22]) (by kernel_rfl) (by simp) ?_
  refine' (AllReadyH.cons ?hoc22k (fun K hK => ?stc22k) AllReadyH.nil)
  case hoc22k => (simp only [List.getElem?_toArray, List.getElem?_cons_succ, List.getElem?_cons_zero]; rfl)
  go_simp
  refine (FX9.out Wks).mono ?_
  rintro e Wkx22 ⟨b, rfl, hv, _, hb⟩
  have V7 := Lib.hid hv
  clear hv
  go_wp2_with fail
  refine hK.out _ _ (hS.trans (hb.mono hS.size)) (fun hHeld => ?_)
  clear hK K
  try simp only [Act.put, List.setIfInBounds_toArray, List.set_cons_succ, List.set_cons_zero]
  clear hS
  have hS := hHeld
  clear hHeld
  clear hb
  refine wpAnyH_ready (rs := [23]) (by kernel_rfl) (by simp) ?_
  refine' (AllReadyH.cons ?hoc23kx22 (fun K hK => ?stc23kx22) AllReadyH.nil)
  case hoc23kx22 => (simp only [List.getElem?_toArray, List.getElem?_cons_succ, List.getElem?_cons_zero]; rfl)
  have dd := CV.out Wkx22 b V7.out
  go_simp
  refine hK.out _ _ hS (fun hHeld => ?_)
  clear hK K
  try simp only [Act.put, List.setIfInBounds_toArray, List.set_cons_succ, List.set_cons_zero]
  clear hS
  have hS := hHeld
  clear hHeld
  refine' wpAnyH_take (i := 24) ?h1x24kx22x23 ?hsx24kx22x23 ?hfx24kx22x23 ?hrx24kx22x23 ?hQx24kx22x23 (Or.inl ⟨?hwx24kx22x23, ?hyx24kx22x23⟩) hS ?restx24kx22x23
  case h1x24kx22x23 => (simp only [List.getElem?_toArray, List.getElem?_cons_succ, List.getElem?_cons_zero]; rfl)
  case hsx24kx22x23 | hfx24kx22x23 | hrx24kx22x23 => kernel_rfl
  case hQx24kx22x23 => exact fun _ _ _ h => h
  case hwx24kx22x23 => rfl
  case hyx24kx22x23 =>
    intro W hW
    go_simp
    try with_reducible rfl
  simp only [Act.put, List.setIfInBounds_toArray, List.set_cons_succ, List.set_cons_zero]
  refine' wpAnyH_take (i := 25) ?h1x25kx22x23 ?hsx25kx22x23 ?hfx25kx22x23 ?hrx25kx22x23 ?hQx25kx22x23 (Or.inl ⟨?hwx25kx22x23, ?hyx25kx22x23⟩) hS ?restx25kx22x23
  case h1x25kx22x23 => (simp only [List.getElem?_toArray, List.getElem?_cons_succ, List.getElem?_cons_zero]; rfl)
  case hsx25kx22x23 | hfx25kx22x23 | hrx25kx22x23 => kernel_rfl
  case hQx25kx22x23 => exact fun _ _ _ h => h
  case hwx25kx22x23 => rfl
  case hyx25kx22x23 =>
    intro W hW
    go_simp
    try with_reducible rfl
  simp only [Act.put, List.setIfInBounds_toArray, List.set_cons_succ, List.set_cons_zero]
  refine' wpAnyH_take (i := 26) ?h1x26kx22x23 ?hsx26kx22x23 ?hfx26kx22x23 ?hrx26kx22x23 ?hQx26kx22x23 (Or.inl ⟨?hwx26kx22x23, ?hyx26kx22x23⟩) hS ?restx26kx22x23
  case h1x26kx22x23 => (simp only [List.getElem?_toArray, List.getElem?_cons_succ, List.getElem?_cons_zero]; rfl)
  case hsx26kx22x23 | hfx26kx22x23 | hrx26kx22x23 => kernel_rfl
  case hQx26kx22x23 => exact fun _ _ _ h => h
  case hwx26kx22x23 => rfl
  case hyx26kx22x23 =>
    intro W hW
    go_simp
    try with_reducible rfl
  simp only [Act.put, List.setIfInBounds_toArray, List.set_cons_succ, List.set_cons_zero]
  refine' wpAnyH_take (i := 27) ?h1x27kx22x23 ?hsx27kx22x23 ?hfx27kx22x23 ?hrx27kx22x23 ?hQx27kx22x23 (Or.inl ⟨?hwx27kx22x23, ?hyx27kx22x23⟩) hS ?restx27kx22x23
  case h1x27kx22x23 => (simp only [List.getElem?_toArray, List.getElem?_cons_succ, List.getElem?_cons_zero]; rfl)
  case hsx27kx22x23 | hfx27kx22x23 | hrx27kx22x23 => kernel_rfl
  case hQx27kx22x23 => exact fun _ _ _ h => h
  case hwx27kx22x23 => rfl
  case hyx27kx22x23 =>
    intro W hW
    go_simp
    try with_reducible rfl
  simp only [Act.put, List.setIfInBounds_toArray, List.set_cons_succ, List.set_cons_zero]
  refine' wpAnyH_take (i := 28) ?h1x28kx22x23 ?hsx28kx22x23 ?hfx28kx22x23 ?hrx28kx22x23 ?hQx28kx22x23 (Or.inl ⟨?hwx28kx22x23, ?hyx28kx22x23⟩) hS ?restx28kx22x23
  case h1x28kx22x23 => (simp only [List.getElem?_toArray, List.getElem?_cons_succ, List.getElem?_cons_zero]; rfl)
  case hsx28kx22x23 | hfx28kx22x23 | hrx28kx22x23 => kernel_rfl
  case hQx28kx22x23 => exact fun _ _ _ h => h
  case hwx28kx22x23 => rfl
  case hyx28kx22x23 =>
    intro W hW
    go_simp
    try with_reducible rfl
  simp only [Act.put, List.setIfInBounds_toArray, List.set_cons_succ, List.set_cons_zero]
  refine' wpAnyH_take (i := 29) ?h1x29kx22x23 ?hsx29kx22x23 ?hfx29kx22x23 ?hrx29kx22x23 ?hQx29kx22x23 (Or.inl ⟨?hwx29kx22x23, ?hyx29kx22x23⟩) hS ?restx29kx22x23
  case h1x29kx22x23 => (simp only [List.getElem?_toArray, List.getElem?_cons_succ, List.getElem?_cons_zero]; rfl)
  case hsx29kx22x23 | hfx29kx22x23 | hrx29kx22x23 => kernel_rfl
  case hQx29kx22x23 => exact fun _ _ _ h => h
  case hwx29kx22x23 => rfl
  case hyx29kx22x23 =>
    intro W hW
    go_simp
    try with_reducible rfl
  simp only [Act.put, List.setIfInBounds_toArray, List.set_cons_succ, List.set_cons_zero]
  refine' wpAnyH_take (i := 30) ?h1x30kx22x23 ?hsx30kx22x23 ?hfx30kx22x23 ?hrx30kx22x23 ?hQx30kx22x23 (Or.inl ⟨?hwx30kx22x23, ?hyx30kx22x23⟩) hS ?restx30kx22x23
  case h1x30kx22x23 => (simp only [List.getElem?_toArray, List.getElem?_cons_succ, List.getElem?_cons_zero]; rfl)
  case hsx30kx22x23 | hfx30kx22x23 | hrx30kx22x23 => kernel_rfl
  case hQx30kx22x23 => exact fun _ _ _ h => h
  case hwx30kx22x23 => rfl
  case hyx30kx22x23 =>
    intro W hW
    go_simp
    try with_reducible rfl
  simp only [Act.put, List.setIfInBounds_toArray, List.set_cons_succ, List.set_cons_zero]
  refine' wpAnyH_take (i := 31) ?h1x31kx22x23 ?hsx31kx22x23 ?hfx31kx22x23 ?hrx31kx22x23 ?hQx31kx22x23 (Or.inl ⟨?hwx31kx22x23, ?hyx31kx22x23⟩) hS ?restx31kx22x23
  case h1x31kx22x23 => (simp only [List.getElem?_toArray, List.getElem?_cons_succ, List.getElem?_cons_zero]; rfl)
  case hsx31kx22x23 | hfx31kx22x23 | hrx31kx22x23 => kernel_rfl
  case hQx31kx22x23 => exact fun _ _ _ h => h
  case hwx31kx22x23 => rfl
  case hyx31kx22x23 =>
    intro W hW
    go_simp
    try with_reducible rfl
  simp only [Act.put, List.setIfInBounds_toArray, List.set_cons_succ, List.set_cons_zero]
  refine wpAnyH_ready (rs := [32]) (by kernel_rfl) (by simp) ?_
  refine' (AllReadyH.cons ?hoc32kx22x23 (fun K hK => ?stc32kx22x23) AllReadyH.nil)
  case hoc32kx22x23 => (simp only [List.getElem?_toArray, List.getElem?_cons_succ, List.getElem?_cons_zero]; rfl)
  go_simp
  refine (CL.out Wkx22 hS).mono ?_
  rintro e w' ⟨rfl, rfl⟩
  go_wp2_with fail
  refine hK.out _ _ hS (fun hHeld => ?_)
  clear hK K
  try simp only [Act.put, List.setIfInBounds_toArray, List.set_cons_succ, List.set_cons_zero]
  clear hS
  have hS := hHeld
  clear hHeld
  refine' wpAnyH_take (i := 33) ?h1x33kx22x23x32 ?hsx33kx22x23x32 ?hfx33kx22x23x32 ?hrx33kx22x23x32 ?hQx33kx22x23x32 (Or.inl ⟨?hwx33kx22x23x32, ?hyx33kx22x23x32⟩) hS ?restx33kx22x23x32
  case h1x33kx22x23x32 => (simp only [List.getElem?_toArray, List.getElem?_cons_succ, List.getElem?_cons_zero]; rfl)
  case hsx33kx22x23x32 | hfx33kx22x23x32 | hrx33kx22x23x32 => kernel_rfl
  case hQx33kx22x23x32 => exact fun _ _ _ h => h
  case hwx33kx22x23x32 => rfl
  case hyx33kx22x23x32 =>
    intro W hW
    go_simp
    try with_reducible rfl
  simp only [Act.put, List.setIfInBounds_toArray, List.set_cons_succ, List.set_cons_zero]
  refine' wpAnyH_take (i := 34) ?h1x34kx22x23x32 ?hsx34kx22x23x32 ?hfx34kx22x23x32 ?hrx34kx22x23x32 ?hQx34kx22x23x32 (Or.inl ⟨?hwx34kx22x23x32, ?hyx34kx22x23x32⟩) hS ?restx34kx22x23x32
  case h1x34kx22x23x32 => (simp only [List.getElem?_toArray, List.getElem?_cons_succ, List.getElem?_cons_zero]; rfl)
  case hsx34kx22x23x32 | hfx34kx22x23x32 | hrx34kx22x23x32 => kernel_rfl
  case hQx34kx22x23x32 => exact fun _ _ _ h => h
  case hwx34kx22x23x32 => rfl
  case hyx34kx22x23x32 =>
    intro W hW
    go_simp
    try with_reducible rfl
  simp only [Act.put, List.setIfInBounds_toArray, List.set_cons_succ, List.set_cons_zero]
  refine' wpAnyH_take (i := 35) ?h1x35kx22x23x32 ?hsx35kx22x23x32 ?hfx35kx22x23x32 ?hrx35kx22x23x32 ?hQx35kx22x23x32 (Or.inl ⟨?hwx35kx22x23x32, ?hyx35kx22x23x32⟩) hS ?restx35kx22x23x32
  case h1x35kx22x23x32 => (simp only [List.getElem?_toArray, List.getElem?_cons_succ, List.getElem?_cons_zero]; rfl)
  case hsx35kx22x23x32 | hfx35kx22x23x32 | hrx35kx22x23x32 => kernel_rfl
  case hQx35kx22x23x32 => exact fun _ _ _ h => h
  case hwx35kx22x23x32 => rfl
  case hyx35kx22x23x32 =>
    intro W hW
    go_simp
    try with_reducible rfl
  simp only [Act.put, List.setIfInBounds_toArray, List.set_cons_zero]
  refine wpAnyH_done (by kernel_rfl) ?_ _
  go_wp2_with fail
  go_ret
  exact ⟨rfl, Be.out.trans (hS.mono Be.out.size)⟩
end Go.Proofs.YtjdamlmoegippaaDoor.pl
