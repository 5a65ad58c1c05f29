/-
  Contract of pool.Put on a disk with any plan: it goes through, or the field refuses, or the disk is down, and the extent is given back. Condition: the pool stands in memory with its parts.
-/
import Derived.Test.YtjdamlmoegippaaDoorPlG
import Derived.Test.YtjdamlmoegippaaDoorExV
import Derived.Test.YtjdamlmoegippaaDoorDkPK
namespace Go.Proofs.YtjdamlmoegippaaDoor.pl
open Go.RowKit
theorem upd_self {f : Nat → Nat} {x : Nat} (h : f x = 0) : ex.upd (ex.upd f x (f x + 1)) x (ex.upd f x (f x + 1) x - 1) = f := by
  funext k
  by_cases e : k = x
  · subst e; simp [ex.upd, h]
  · simp [ex.upd, e]
theorem add_back (T : Nat → ex.Acc) (n : Nat) : ex.addT (ex.addT T n 1) n (-1) = T := by
  unfold ex.addT
  rw [ex.updT_twice, ex.updT_self]
  have e : (⟨(T n).i, (T n).r, (T n).q, (T n).c + 1 + -1⟩ : ex.Acc) = T n := ex.Acc.ext' rfl rfl rfl (by show (T n).c + 1 + -1 = _; omega)
  show ex.updT T n ⟨(T n).i, (T n).r, (T n).q, (T n).c + 1 + -1⟩ = T
  rw [e, ex.updT_get]
/-- What a Take that went through did. -/
theorem tak_told {w : World} {g rb mb wb N : Nat} {s : ex.St} {t : Int} (h : ex.FS w g rb mb wb N s) (htk : (ex.sTak N s t).1 = 0) :
    ∃ n : Nat, t = n ∧ 1 ≤ n ∧ n ≤ 8 ∧ (s.T n).i = true ∧ ex.xTak N s t = ex.fst s.f N ∧ ex.fst s.f N < N ∧ s.f (ex.fst s.f N) = 0 ∧ (ex.sTak N s t).2 = ⟨ex.upd s.f (ex.fst s.f N) (s.f (ex.fst s.f N) + 1), ex.addT s.T n 1⟩ := by
  have hx : ex.xTak N s t = ex.fst s.f N := by unfold ex.xTak; rw [if_pos htk]
  by_cases hi : ex.isIn s.T t
  · have e : ex.sTak N s t = ex.sGet N s t.toNat (ex.fst s.f N) := if_pos hi
    obtain ⟨h1, h8, hT⟩ := hi
    have e2 : t = (t.toNat : Nat) := by omega
    by_cases hr : ex.roomC N s.T t.toNat = 0
    · have e3 : ex.sGet N s t.toNat (ex.fst s.f N) = (0, ⟨ex.upd s.f (ex.fst s.f N) (s.f (ex.fst s.f N) + 1), ex.addT s.T t.toNat 1⟩) := if_pos hr
      obtain ⟨_, _, hc⟩ := ex.roomC_room h t.toNat (by omega) (by omega) hr
      obtain ⟨f1, f2, f3⟩ := ex.fst_spec s.f N
      have hl : ex.fst s.f N < N := by
        rcases Nat.lt_or_ge (ex.fst s.f N) N with h | h
        · exact h
        · have := ex.cnt_full (f := s.f) N (fun j hj => f2 j (by omega))
          omega
      exact ⟨t.toNat, e2, by omega, by omega, hT, hx, hl, f3 hl, by rw [e, e3]⟩
    · have e3 : ex.sGet N s t.toNat (ex.fst s.f N) = (ex.roomC N s.T t.toNat, s) := if_neg hr
      rw [e, e3] at htk
      exact absurd htk hr
  · have e : ex.sTak N s t = (51, s) := if_neg hi
    rw [e] at htk
    exact absurd htk (by show ¬ (51 : Int) = 0; decide)
theorem drop_back {w : World} {g rb mb wb N : Nat} {s : ex.St} {t : Int} (h : ex.FS w g rb mb wb N s) (htk : (ex.sTak N s t).1 = 0) : ex.sDrp N (ex.sTak N s t).2 t (ex.xTak N s t) = (0, s) := by
  obtain ⟨n, rfl, h1, h8, hT, hx, hl, h0, h2⟩ := tak_told h htk
  rw [h2, hx]
  have ei : (ex.addT s.T n 1 n).i = true := by unfold ex.addT; rw [ex.updT_self]; exact hT
  have ec : (ex.addT s.T n 1 n).c = (s.T n).c + 1 := by unfold ex.addT; rw [ex.updT_self]
  have hin : ex.isIn (ex.addT s.T n 1) (n : Int) := ⟨by omega, by omega, by rw [Int.toNat_natCast]; exact ei⟩
  have hc := ((show ex.FD w g rb mb wb N s.f s.T from h).inv.cq n).1
  have eu : ex.upd s.f (ex.fst s.f N) (s.f (ex.fst s.f N) + 1) (ex.fst s.f N) = 1 := by simp [ex.upd, h0]
  unfold ex.sDrp
  simp only []
  rw [if_pos hl, if_pos hin, Int.toNat_natCast, if_neg (by rw [ec, eu]; omega), if_pos eu, add_back, upd_self h0]
/-- What a write that the disk refused leaves of it. -/
def DF (D D' : DS) : Prop := D'.d = true ∧ D'.su = D.su ∧ D'.ws = D.ws ∧ 0 ≤ D'.c ∧ D'.c ≤ D.c + 1 ∧ dk.pv.PP D'.pn ∧ D'.K = D.K + 1
/-- A pool behind a Put that went through. -/
def PutU (w : World) (A : PA) (D : DS) (s' : ex.St) (S : Nat → Prop) (T : List (List Int)) (n y : Nat) (e : Ending) (w' : World) : Prop :=
  ∃ (wv' : Value) (S' : Nat → Prop), e = .returned (.tuple #[.agg (rl n (hl.sha (bI y))).toArray, .int .i64 0]) ∧
    PW w' A ⟨wv', D.su, D.ws ++ [(A.fr + n, y)], D.rg, D.c + 1, dk.pl D.pn, false, D.K + 1⟩ s' S' (hl.addT T (bI y)) ∧ (∀ q, S' q → S q ∨ w.heap.size ≤ q) ∧ dk.Mods (Oth A D S) w w'
/-- A pool behind a Put on a disk that is down. -/
def PutD (w : World) (A : PA) (D : DS) (s : ex.St) (S : Nat → Prop) (T : List (List Int)) (e : Ending) (w' : World) : Prop :=
  ∃ D' : DS, e = .returned (.tuple #[.agg zr, .int .i64 30]) ∧ PW w' A D' s S T ∧ DF D D' ∧ dk.Mods (Oth A D S) w w'
set_option maxRecDepth 100000 in
set_option maxHeartbeats 8000000 in
theorem put_up {w : World} {A : PA} {D : DS} {s : ex.St} {S : Nat → Prop} {T : List (List Int)} (h : PW w A D s S T) (t : Int) (v : Value) (y : Nat) (hv : dk.TX w v (dk.tx y)) (hy : y < 256) (hvS : ∀ b, v.ownBlock = some b → ¬ S b) (htk : (ex.sTak A.ct s t).1 = 0) (n : Nat) (hn : ex.xTak A.ct s t = n) (hnc : n < A.ct)
    (hd : D.d = false) (hp : dk.pv.PP D.pn) (hp0 : D.pn ≠ 0) (hc : 0 ≤ D.c) (hc2 : D.c ≤ 1000000) (hK : D.K < 1000000) (hN : A.fr + A.ct ≤ A.N) (hT : T.length ≤ 999999) :
    Calls Tryd.prog 7 #[.pointer (some ⟨A.p, 0, none⟩), .int .i64 t, v] w (PutU w A D (ex.sTak A.ct s t).2 S T n y) := by
  have hN2 : A.N ≤ 65536 := h.dk.n2
  have hlsum : (hl.sha (bI y)).length = 32 := hl.sha_len _ (bI_byt hy)
  obtain ⟨vb, hvb, hvrow⟩ := hv
  rw [dk.tx_len] at hvb
  subst hvb
  have hz := z26
  have IZ0 := i26
  have OZ := Lib.hid o26
  generalize zr = Z at hz IZ0 OZ
  have IZ := Lib.hid IZ0
  obtain ⟨W0, hW0⟩ : ∃ W0, W0 = w.alloc (.cells Z 26) := ⟨_, rfl⟩
  have b0 : Below w.heap.size w W0 := by rw [hW0]; exact (Below.refl _ _).alloc (Nat.le_refl _) _
  have G0 : Hid (W0.heap[w.heap.size]? = some (.cells Z 26 (0, 0))) := by show _ = _; rw [hW0]; exact heap_alloc_new w _
  have h2w : 2 ≤ w.heap.size := by have := h.gg.lt; omega
  have H0 := Lib.hid (h.below b0)
  have V0 : Hid (dk.TX W0 (.slice (some ⟨vb, 0, none⟩) 512 512) (dk.tx y)) := dk.TX.below ⟨vb, by rw [dk.tx_len], hvrow⟩ b0
  have NS : Hid (¬ S w.heap.size) := fun e => by have := h.lg.own _ e; omega
  have NV : Hid (¬ S vb) := hvS vb rfl
  have FTN : Hid (¬ ex.Ft A.gf A.mb A.wb w.heap.size) := fun e => by
    have a := h.a2 w.heap.size
    rcases e with e | e | e
    · have := (a (.inl e)).2.1; omega
    · have := (a (.inr (.inr (.inl e)))).2.1; omega
    · have := (a (.inr (.inr (.inr e)))).2.1; omega
  have DTN : Hid (¬ Dts A D w.heap.size) := fun e => by have := dt_lt h.dk _ e; omega
  have BE := Lib.hid b0
  have HW0 := Lib.hid hW0
  have TK : Hid (Calls Tryd.prog 21 #[.pointer (some ⟨A.gf, 0, none⟩), .int .i64 t] W0 (ex.TS W0 A.gf A.rb A.mb A.wb A.ct s t)) := ex.takS H0.out.fd t
  have MD := Lib.hid (made_yes H0.out.pool)
  have c1 := H0.out.pool.c1
  have BR := Lib.hid (brl n hlsum)
  have IC := Lib.hid (irl n hlsum)
  have OC := Lib.hid (orl n (hl.sha (bI y)))
  obtain ⟨C, hC⟩ : ∃ C, C = (rl n (hl.sha (bI y))).toArray := ⟨_, rfl⟩
  have PPe : Hid (∀ (e : Ending) (w' : World), (∃ (wv' : Value) (S' : Nat → Prop), e = .returned (.tuple #[.agg C, .int .i64 0]) ∧ PW w' A ⟨wv', D.su, D.ws ++ [(A.fr + n, y)], D.rg, D.c + 1, dk.pl D.pn, false, D.K + 1⟩ (ex.sTak A.ct s t).2 S' (hl.addT T (bI y)) ∧ (∀ q, S' q → S q ∨ w.heap.size ≤ q) ∧ dk.Mods (Oth A D S) w w') → PutU w A D (ex.sTak A.ct s t).2 S T n y e w') := fun e w' hh => by
    unfold PutU; rw [← hC]; exact hh
  rw [← hC] at BR IC OC
  have IZC : Hid (Z.size = C.size) := Option.some.inj (IZ.out.symm.trans IC.out)
  obtain ⟨PP, hPP⟩ : ∃ PP, PP = PutU w A D (ex.sTak A.ct s t).2 S T n y := ⟨_, rfl⟩
  rw [← hPP] at PPe ⊢
  have HTK := Lib.hid htk
  have HN := Lib.hid hn
  have HY := Lib.hid hy
  have HD := Lib.hid hd
  have HPN : Hid (dk.pv.PP D.pn ∧ D.pn ≠ 0) := ⟨hp, hp0⟩
  have HCC : Hid (0 ≤ D.c ∧ D.c ≤ 1000000) := ⟨hc, hc2⟩
  have HK := Lib.hid hK
  have HFN : Hid (A.fr + n < A.N) := by show _ < _; omega
  have HF2 : Hid (A.fr + n ≤ 4294967295) := by show _ ≤ _; omega
  have HT := Lib.hid hT
  have H2 := Lib.hid h2w
  have HLS := Lib.hid hlsum
  clear hW0 b0 h hvrow hvS htk hn hnc hd hp hp0 hc hc2 hK hN hN2 hT h2w hlsum hy hC hPP
  go_enter Tryd.func7, Tryd.ntmps7
  go_upto_region 1 with (fail)
  rw [← HW0.out]
  clear hz
  go_wp2_with fail
  refine MD.out.mono ?_
  rintro e w' ⟨rfl, rfl⟩
  go_wp2_with fail
  refine TK.out.mono ?_
  rintro e w3 ⟨rfl, hf3, hm3⟩
  rw [HTK.out, HN.out]
  have H3 := Lib.hid (H0.out.field hf3 hm3)
  have V3 := Lib.hid (dk.TX.mods V0.out (dkm hm3) (ft_bytes H0.out))
  have G3 := Lib.hid ((hm3.block _ (blk_lt G0.out) FTN.out).trans G0.out)
  have M3 : Hid (dk.Mods (Oth A D S) w w3) := (dk.Mods.of_below BE.out).trans (dkm hm3) (fun b hb => .inl (.inr (.inl hb)))
  have Z3 : Hid (w.heap.size < w3.heap.size) := blk_lt G3.out
  have PLM : Hid (∀ W, dk.Mods (Dts A D) w3 W → PL W A.p A.gd A.gf A.gb (.pointer (some ⟨A.gl, 0, none⟩)) A.fr) := fun W m => H3.out.pool.mods m (fun e => (H3.out.a1 _ e).2.2.1 rfl) (fun e => (H3.out.a1 _ e).2.2.2.1 rfl)
  have WRT : Hid (∀ W, PW W A D (ex.sTak A.ct s t).2 S T → dk.TX W (.slice (some ⟨vb, 0, none⟩) 512 512) (dk.tx y) → Calls Tryd.prog 22 #[.pointer (some ⟨A.gd, 0, none⟩), .int .u32 ((A.fr + n : Nat) : Int), .slice (some ⟨vb, 0, none⟩) 512 512] W fun e w' => ∃ wv', e = .returned (.int .i64 0) ∧ PW w' A ⟨wv', D.su, D.ws ++ [(A.fr + n, y)], D.rg, D.c + 1, dk.pl D.pn, false, D.K + 1⟩ (ex.sTak A.ct s t).2 S T ∧ dk.Mods (Dts A D) W w') := fun W hh hv => by
    have hdk := hh.dk
    unfold DKs at hdk
    rw [HD.out] at hdk
    have hw := dk.pv.writeD_ok hdk (A.fr + n) y (.slice (some ⟨vb, 0, none⟩) 512 512) HFN.out hv (fun b hb e => by have := hh.lg.own b e; omega) HY.out HCC.out.1 HCC.out.2 (by have a := HPN.out.1; have b := HPN.out.2; unfold dk.pv.PP at a; omega) (by have a := HPN.out.1; unfold dk.pv.PP at a; omega) HK.out
    refine hw.mono fun e w' hq => ?_
    obtain ⟨wv', he, hdw⟩ := hq
    exact ⟨wv', he, hh.disk (D' := ⟨wv', D.su, D.ws ++ [(A.fr + n, y)], D.rg, D.c + 1, dk.pl D.pn, false, D.K + 1⟩) hdw.dk hdw.m hdw.an, hdw.m⟩
  clear hf3 hm3 G0 H0 V0 TK MD c1 BE FTN
  go_upto_region 8 with (fail)
  refine wp_region_held_drew (S := fun W => dk.Mods (Dts A D) w3 W) (by kernel_rfl) (dk.Mods.of_below (Below.refl _ _).drew) (fun hS => ?_)
  have qH := H3.out.below (Below.refl _ _).drew
  have qV := V3.out.below (Below.refl _ _).drew
  generalize w3.drew = Ws at hS qH qV ⊢
  have H := Lib.hid qH
  have V := Lib.hid qV
  clear qH qV H3 V3
  refine' wpAnyH_take (i := 0) ?h1x0k ?hsx0k ?hfx0k ?hrx0k ?hQx0k (Or.inl ⟨?hwx0k, ?hyx0k⟩) hS ?restx0k
  case h1x0k => (simp only [List.getElem?_toArray, List.getElem?_cons_zero]; rfl)
  case hsx0k | hfx0k | hrx0k => kernel_rfl
  case hQx0k => exact fun _ _ _ h => h
  case hwx0k => rfl
  case hyx0k =>
    intro W hW
    go_simp
    try with_reducible rfl
  simp only [Act.put, List.setIfInBounds_toArray, List.set_cons_succ, List.set_cons_zero]
  refine' wpAnyH_take (i := 4) ?h1x4k ?hsx4k ?hfx4k ?hrx4k ?hQx4k (Or.inl ⟨?hwx4k, ?hyx4k⟩) hS ?restx4k
  case h1x4k => (simp only [List.getElem?_toArray, List.getElem?_cons_succ, List.getElem?_cons_zero]; rfl)
  case hsx4k | hfx4k | hrx4k => kernel_rfl
  case hQx4k => exact fun _ _ _ h => h
  case hwx4k => rfl
  case hyx4k =>
    intro W hW
    go_simp
    try with_reducible rfl
  simp only [Act.put, List.setIfInBounds_toArray, List.set_cons_succ, List.set_cons_zero]
  refine' wpAnyH_take (i := 8) ?h1x8k ?hsx8k ?hfx8k ?hrx8k ?hQx8k (Or.inl ⟨?hwx8k, ?hyx8k⟩) hS ?restx8k
  case h1x8k => (simp only [List.getElem?_toArray, List.getElem?_cons_succ, List.getElem?_cons_zero]; rfl)
  case hsx8k | hfx8k | hrx8k => kernel_rfl
  case hQx8k => exact fun _ _ _ h => h
  case hwx8k => rfl
  case hyx8k =>
    intro W hW
    go_simp
    try with_reducible rfl
  simp only [Act.put, List.setIfInBounds_toArray, List.set_cons_succ, List.set_cons_zero]
  refine' wpAnyH_take (i := 10) ?h1x10k ?hsx10k ?hfx10k ?hrx10k ?hQx10k (Or.inl ⟨?hwx10k, ?hyx10k⟩) hS ?restx10k
  case h1x10k => (simp only [List.getElem?_toArray, List.getElem?_cons_succ, List.getElem?_cons_zero]; rfl)
  case hsx10k | hfx10k | hrx10k => kernel_rfl
  case hQx10k => exact fun _ _ _ h => h
  case hwx10k => rfl
  case hyx10k =>
    intro W hW
    go_simp
    try with_reducible rfl
  simp only [Act.put, List.setIfInBounds_toArray, List.set_cons_succ, List.set_cons_zero]
  refine' wpAnyH_take (i := 1) ?h1x1k ?hsx1k ?hfx1k ?hrx1k ?hQx1k (Or.inl ⟨?hwx1k, ?hyx1k⟩) hS ?restx1k
  case h1x1k => (simp only [List.getElem?_toArray, List.getElem?_cons_succ, List.getElem?_cons_zero]; rfl)
  case hsx1k | hfx1k | hrx1k => kernel_rfl
  case hQx1k => exact fun _ _ _ h => h
  case hwx1k => rfl
  case hyx1k =>
    intro W hW
    go_simp
    try with_reducible rfl
  simp only [Act.put, List.setIfInBounds_toArray, List.set_cons_succ, List.set_cons_zero]
  refine' wpAnyH_take (i := 5) ?h1x5k ?hsx5k ?hfx5k ?hrx5k ?hQx5k (Or.inl ⟨?hwx5k, ?hyx5k⟩) hS ?restx5k
  case h1x5k => (simp only [List.getElem?_toArray, List.getElem?_cons_succ, List.getElem?_cons_zero]; rfl)
  case hsx5k | hfx5k | hrx5k => kernel_rfl
  case hQx5k => exact fun _ _ _ h => h
  case hwx5k => rfl
  case hyx5k =>
    intro W hW
    go_simp
    try with_reducible rfl
  simp only [Act.put, List.setIfInBounds_toArray, List.set_cons_succ, List.set_cons_zero]
  refine' wpAnyH_take (i := 2) ?h1x2k ?hsx2k ?hfx2k ?hrx2k ?hQx2k (Or.inl ⟨?hwx2k, ?hyx2k⟩) hS ?restx2k
  case h1x2k => (simp only [List.getElem?_toArray, List.getElem?_cons_succ, List.getElem?_cons_zero]; rfl)
  case hsx2k | hfx2k | hrx2k => kernel_rfl
  case hQx2k => exact fun _ _ _ h => h
  case hwx2k => rfl
  case hyx2k =>
    intro W hW
    go_simp
    try with_reducible rfl
  simp only [Act.put, List.setIfInBounds_toArray, List.set_cons_succ, List.set_cons_zero]
  refine' wpAnyH_take (i := 6) ?h1x6k ?hsx6k ?hfx6k ?hrx6k ?hQx6k (Or.inl ⟨?hwx6k, ?hyx6k⟩) hS ?restx6k
  case h1x6k => (simp only [List.getElem?_toArray, List.getElem?_cons_succ, List.getElem?_cons_zero]; rfl)
  case hsx6k | hfx6k | hrx6k => kernel_rfl
  case hQx6k => exact fun _ _ _ h => h
  case hwx6k => rfl
  case hyx6k =>
    intro W hW
    go_simp
    try with_reducible rfl
  simp only [Act.put, List.setIfInBounds_toArray, List.set_cons_succ, List.set_cons_zero]
  refine' wpAnyH_take (i := 3) ?h1x3k ?hsx3k ?hfx3k ?hrx3k ?hQx3k (Or.inl ⟨?hwx3k, ?hyx3k⟩) hS ?restx3k
  case h1x3k => (simp only [List.getElem?_toArray, List.getElem?_cons_succ, List.getElem?_cons_zero]; rfl)
  case hsx3k | hfx3k | hrx3k => kernel_rfl
  case hQx3k => exact fun _ _ _ h => h
  case hwx3k => rfl
  case hyx3k =>
    intro W hW
    have dd := (PLM.out W hW).c0
    go_simp
    try with_reducible rfl
  simp only [Act.put, List.setIfInBounds_toArray, List.set_cons_succ, List.set_cons_zero]
  refine' wpAnyH_take (i := 7) ?h1x7k ?hsx7k ?hfx7k ?hrx7k ?hQx7k (Or.inl ⟨?hwx7k, ?hyx7k⟩) hS ?restx7k
  case h1x7k => (simp only [List.getElem?_toArray, List.getElem?_cons_succ, List.getElem?_cons_zero]; rfl)
  case hsx7k | hfx7k | hrx7k => kernel_rfl
  case hQx7k => exact fun _ _ _ h => h
  case hwx7k => rfl
  case hyx7k =>
    intro W hW
    have dd := (PLM.out W hW).c3
    go_simp
    try with_reducible rfl
  simp only [Act.put, List.setIfInBounds_toArray, List.set_cons_succ, List.set_cons_zero]
  refine wpAnyH_ready (rs := [9]) (by kernel_rfl) (by simp) ?_
  refine' (AllReadyH.cons ?hoc9k (fun K hK => ?stc9k) AllReadyH.nil)
  case hoc9k => (simp only [List.getElem?_toArray, List.getElem?_cons_succ, List.getElem?_cons_zero]; rfl)
  go_simp
  refine (sector A.gb A.fr n Ws H.out.pool.b0 HF2.out).mono ?_
  rintro e w' ⟨rfl, rfl⟩
  go_wp2_with fail
  refine hK.out _ _ hS (fun hHeld => ?_)
  clear hK K
  try simp only [Act.put, List.setIfInBounds_toArray, List.set_cons_succ, List.set_cons_zero]
  clear hS
  have hS := hHeld
  clear hHeld
  refine wpAnyH_ready (rs := [11]) (by kernel_rfl) (by simp) ?_
  refine' (AllReadyH.cons ?hoc11kx9 (fun K hK => ?stc11kx9) AllReadyH.nil)
  case hoc11kx9 => (simp only [List.getElem?_toArray, List.getElem?_cons_succ, List.getElem?_cons_zero]; rfl)
  go_simp
  refine (WRT.out Ws H.out V.out).mono ?_
  rintro e w4 ⟨wv', rfl, hp4, hm4⟩
  have V4 := Lib.hid (dk.TX.mods V.out hm4 (fun b cs hc hd => (dk.pv.DK.kinds H.out.dk).1 b cs hc hd))
  have H4 := Lib.hid hp4
  have hS4 := hS.trans hm4 (fun b hb => .inl hb)
  clear H V hp4 hm4
  go_wp2_with fail
  refine hK.out _ _ hS4 (fun hHeld => ?_)
  clear hK K hS4
  try simp only [Act.put, List.setIfInBounds_toArray, List.set_cons_succ, List.set_cons_zero]
  clear hS
  have hS := hHeld
  clear hHeld
  refine' wpAnyH_take (i := 12) ?h1x12kx9x11 ?hsx12kx9x11 ?hfx12kx9x11 ?hrx12kx9x11 ?hQx12kx9x11 (Or.inl ⟨?hwx12kx9x11, ?hyx12kx9x11⟩) hS ?restx12kx9x11
  case h1x12kx9x11 => (simp only [List.getElem?_toArray, List.getElem?_cons_succ, List.getElem?_cons_zero]; rfl)
  case hsx12kx9x11 | hfx12kx9x11 | hrx12kx9x11 => kernel_rfl
  case hQx12kx9x11 => exact fun _ _ _ h => h
  case hwx12kx9x11 => rfl
  case hyx12kx9x11 =>
    intro W hW
    go_simp
    try with_reducible rfl
  simp only [Act.put, List.setIfInBounds_toArray, List.set_cons_succ, List.set_cons_zero]
  refine wpAnyH_done (by kernel_rfl) ?_ _
  have G4 := Lib.hid ((hS.block _ (blk_lt G3.out) DTN.out).trans G3.out)
  have M4 : Hid (dk.Mods (Oth A D S) w w4) := M3.out.trans hS (fun b hb => .inl (.inl hb))
  have Z4 : Hid (w.heap.size < w4.heap.size) := Nat.lt_of_lt_of_le Z3.out hS.size
  have c2 := H4.out.pool.c2
  have SUM : Hid (Calls Tryd.prog 23 #[.pointer (some ⟨A.gl, 0, none⟩), .slice (some ⟨vb, 0, none⟩) 512 512] w4 (hl.SumP S w4 A.gl T (bI y))) := hl.sumY S A.gl T (bI y) _ w4 H4.out.lg (fun q _ hq => by cases hq; exact NV.out) HT.out H4.out.gg (bI_byt HY.out) (by show (List.replicate 512 (y : Int)).length ≤ _; rw [List.length_replicate]; decide) (tx_sees V4.out HY.out)
  clear hS PLM WRT G3 M3 Z3
  go_upto_region 12 with (fail)
  go_wp2_with fail
  refine SUM.out.mono ?_
  rintro e w5 ⟨rfl, hlg, hm5⟩
  have H5 := Lib.hid (H4.out.log hlg hm5)
  have G5 := Lib.hid ((hm5.block _ (blk_lt G4.out) NS.out).trans G4.out)
  have M5 : Hid (dk.Mods (Oth A D S) w w5) := M4.out.trans (dkh hm5) (fun b hb => .inl (.inr (.inr hb)))
  have Z45 : Hid (w4.heap.size ≤ w5.heap.size) := hm5.size
  clear hlg hm5 SUM c2
  go_wp2_with (first | (refine wpList_build2_runD (u1 := .int .u32 (n : Int)) (u2 := .agg (hl.bcells (hl.sha (bI y)))) rfl 26 0 1 (.tmp 57) (.tmp 63) rfl rfl rfl (BR.out w5) ?_; refine wpList_store_row rfl 26 (.tmp 6) (.tmp 64) rfl w.heap.size C rfl rfl 26 Z G5.out IC.out IZC.out OC.out ?_))
  have FIN := Lib.hid (setRow_heap w5 w.heap.size _ C 26 _ G5.out)
  refine bodyPost_ret (v := .tuple #[.agg C, .int .i64 0]) (dk.results_cell_tmp Tryd.results7 _ _ w.heap.size 26 C (0, 0) _ rfl FIN.out Tryd.underlying26 rfl IC.out) rfl ?_
  refine PPe.out _ _ ⟨wv', _, rfl, H5.out.other (modsRow w5 w.heap.size C) G5.out (fun e => ?_) H2.out, fun q e => ?_, M5.out.trans (modsRow w5 w.heap.size C) (fun b hb => .inr (by omega))⟩
  · rcases e with e | e
    · exact NS.out e
    · have := Z4.out; omega
  · rcases e with e | e
    · exact .inl e
    · have := Z4.out; exact .inr (by omega)
set_option maxRecDepth 100000 in
set_option maxHeartbeats 8000000 in
theorem put_down {w : World} {A : PA} {D : DS} {s : ex.St} {S : Nat → Prop} {T : List (List Int)} (h : PW w A D s S T) (t : Int) (v : Value) (y : Nat) (hv : dk.TX w v (dk.tx y)) (htk : (ex.sTak A.ct s t).1 = 0) (n : Nat) (hn : ex.xTak A.ct s t = n) (hnc : n < A.ct)
    (hd : D.d = true ∨ D.pn = 0) (hp : dk.pv.PP D.pn) (hc : 0 ≤ D.c) (hK : D.K < 1000000) (hN : A.fr + A.ct ≤ A.N) :
    Calls Tryd.prog 7 #[.pointer (some ⟨A.p, 0, none⟩), .int .i64 t, v] w (PutD w A D s S T) := by
  have hN2 : A.N ≤ 65536 := h.dk.n2
  obtain ⟨vb, hvb, hvrow⟩ := hv
  rw [dk.tx_len] at hvb
  subst hvb
  obtain ⟨Z, hZ⟩ : ∃ Z, Z = zr := ⟨_, rfl⟩
  have hz := z26
  have IZ0 := i26
  have OZ0 := o26
  have b26 := b26
  rw [← hZ] at hz IZ0 OZ0 b26
  have OZ := Lib.hid OZ0
  have IZ := Lib.hid IZ0
  obtain ⟨W0, hW0⟩ : ∃ W0, W0 = w.alloc (.cells Z 26) := ⟨_, rfl⟩
  have b0 : Below w.heap.size w W0 := by rw [hW0]; exact (Below.refl _ _).alloc (Nat.le_refl _) _
  have G0 : Hid (W0.heap[w.heap.size]? = some (.cells Z 26 (0, 0))) := by show _ = _; rw [hW0]; exact heap_alloc_new w _
  have h2w : 2 ≤ w.heap.size := by have := h.gg.lt; omega
  have H0 := Lib.hid (h.below b0)
  have V0 : Hid (dk.TX W0 (.slice (some ⟨vb, 0, none⟩) 512 512) (dk.tx y)) := dk.TX.below ⟨vb, by rw [dk.tx_len], hvrow⟩ b0
  have NS : Hid (¬ S w.heap.size) := fun e => by have := h.lg.own _ e; omega
  have FTN : Hid (¬ ex.Ft A.gf A.mb A.wb w.heap.size) := fun e => by
    have a := h.a2 w.heap.size
    rcases e with e | e | e
    · have := (a (.inl e)).2.1; omega
    · have := (a (.inr (.inr (.inl e)))).2.1; omega
    · have := (a (.inr (.inr (.inr e)))).2.1; omega
  have DTN : Hid (¬ Dts A D w.heap.size) := fun e => by have := dt_lt h.dk _ e; omega
  have BE := Lib.hid b0
  have HW0 := Lib.hid hW0
  have TK : Hid (Calls Tryd.prog 21 #[.pointer (some ⟨A.gf, 0, none⟩), .int .i64 t] W0 (ex.TS W0 A.gf A.rb A.mb A.wb A.ct s t)) := ex.takS H0.out.fd t
  have MD := Lib.hid (made_yes H0.out.pool)
  have c1 := H0.out.pool.c1
  have HBL := Lib.hid b26
  have HDS := Lib.hid (drop_back h.fd htk)
  rw [hn] at HDS
  have PPe : Hid (∀ (e : Ending) (w' : World), (∃ D' : DS, e = .returned (.tuple #[.agg Z, .int .i64 30]) ∧ PW w' A D' s S T ∧ DF D D' ∧ dk.Mods (Oth A D S) w w') → PutD w A D s S T e w') := fun e w' hh => by
    unfold PutD; rw [← hZ]; exact hh
  obtain ⟨PP, hPP⟩ : ∃ PP, PP = PutD w A D s S T := ⟨_, rfl⟩
  rw [← hPP] at PPe ⊢
  have HTK := Lib.hid htk
  have HN := Lib.hid hn
  have HD := Lib.hid hd
  have HPN := Lib.hid hp
  have HCC : Hid (0 ≤ D.c ∧ D.K < 1000000) := ⟨hc, hK⟩
  have HK := Lib.hid hK
  have HFN : Hid (A.fr + n < A.N) := by show _ < _; omega
  have HF2 : Hid (A.fr + n ≤ 4294967295) := by show _ ≤ _; omega
  have H2 := Lib.hid h2w
  clear hW0 b0 h hvrow htk hn hnc hd hp hc hK hN hN2 h2w hPP hZ b26 IZ0 OZ0
  go_enter Tryd.func7, Tryd.ntmps7
  go_upto_region 1 with (fail)
  rw [← HW0.out]
  clear hz
  go_wp2_with fail
  refine MD.out.mono ?_
  rintro e w' ⟨rfl, rfl⟩
  go_wp2_with fail
  refine TK.out.mono ?_
  rintro e w3 ⟨rfl, hf3, hm3⟩
  rw [HTK.out, HN.out]
  have H3 := Lib.hid (H0.out.field hf3 hm3)
  have V3 := Lib.hid (dk.TX.mods V0.out (dkm hm3) (ft_bytes H0.out))
  have G3 := Lib.hid ((hm3.block _ (blk_lt G0.out) FTN.out).trans G0.out)
  have M3 : Hid (dk.Mods (Oth A D S) w w3) := (dk.Mods.of_below BE.out).trans (dkm hm3) (fun b hb => .inl (.inr (.inl hb)))
  have Z3 : Hid (w.heap.size < w3.heap.size) := blk_lt G3.out
  have PLM : Hid (∀ W, dk.Mods (Dts A D) w3 W → PL W A.p A.gd A.gf A.gb (.pointer (some ⟨A.gl, 0, none⟩)) A.fr) := fun W m => H3.out.pool.mods m (fun e => (H3.out.a1 _ e).2.2.1 rfl) (fun e => (H3.out.a1 _ e).2.2.2.1 rfl)
  have WRT : Hid (∀ W, PW W A D (ex.sTak A.ct s t).2 S T → dk.TX W (.slice (some ⟨vb, 0, none⟩) 512 512) (dk.tx y) → Calls Tryd.prog 22 #[.pointer (some ⟨A.gd, 0, none⟩), .int .u32 ((A.fr + n : Nat) : Int), .slice (some ⟨vb, 0, none⟩) 512 512] W fun e w' => ∃ D' : DS, e = .returned (.int .i64 30) ∧ PW w' A D' (ex.sTak A.ct s t).2 S T ∧ dk.Mods (Dts A D) W w' ∧ DF D D') := fun W hh hv => by
    have hdk := hh.dk
    unfold DKs at hdk
    have hc := HCC.out.1
    have hK := HK.out
    by_cases hdd : D.d = true
    · rw [hdd] at hdk
      refine (dk.pv.writeD_err hdk (A.fr + n) (some ⟨vb, 0, none⟩) 512 512 (by omega) (by rw [dk.pv.wE_isdown]; decide)).mono ?_
      rintro e w' ⟨rfl, hb⟩
      have q := (dk.pv.DkW.of_below hdk hb).more (K' := D.K + 1) (by omega) (by omega)
      refine ⟨⟨D.wv, D.su, D.ws, D.rg, D.c, D.pn, true, D.K + 1⟩, ?_, hh.disk (D' := ⟨D.wv, D.su, D.ws, D.rg, D.c, D.pn, true, D.K + 1⟩) q.dk q.m q.an, q.m, rfl, rfl, rfl, hc, ?_, HPN.out, rfl⟩
      · rw [dk.pv.wE_isdown]
      · show D.c ≤ D.c + 1
        omega
    · have h0 : D.pn = 0 := by
        rcases HD.out with h | h
        · exact absurd h hdd
        · exact h
      rw [h0, Bool.eq_false_iff.2 hdd] at hdk
      refine (dk.pv.writeD_down hdk (A.fr + n) (some ⟨vb, 0, none⟩) 512 HFN.out).mono ?_
      rintro e w' ⟨wv', rfl, hdw⟩
      have q := hdw.more (K' := D.K + 1) (by omega) (by omega)
      refine ⟨⟨wv', D.su, D.ws, D.rg, D.c, 0, true, D.K + 1⟩, rfl, hh.disk (D' := ⟨wv', D.su, D.ws, D.rg, D.c, 0, true, D.K + 1⟩) q.dk q.m q.an, q.m, rfl, rfl, rfl, hc, ?_, .inr ⟨Int.le_refl 0, by show (0 : Int) ≤ 9223372036854775807; decide⟩, rfl⟩
      show D.c ≤ D.c + 1
      omega
  clear hf3 hm3 G0 H0 V0 TK MD c1 BE
  go_upto_region 8 with (fail)
  refine wp_region_held_drew (S := fun W => dk.Mods (Dts A D) w3 W) (by kernel_rfl) (dk.Mods.of_below (Below.refl _ _).drew) (fun hS => ?_)
  have qH := H3.out.below (Below.refl _ _).drew
  have qV := V3.out.below (Below.refl _ _).drew
  generalize w3.drew = Ws at hS qH qV ⊢
  have H := Lib.hid qH
  have V := Lib.hid qV
  clear qH qV H3 V3
  refine' wpAnyH_take (i := 0) ?h1x0k ?hsx0k ?hfx0k ?hrx0k ?hQx0k (Or.inl ⟨?hwx0k, ?hyx0k⟩) hS ?restx0k
  case h1x0k => (simp only [List.getElem?_toArray, List.getElem?_cons_zero]; rfl)
  case hsx0k | hfx0k | hrx0k => kernel_rfl
  case hQx0k => exact fun _ _ _ h => h
  case hwx0k => rfl
  case hyx0k =>
    intro W hW
    go_simp
    try with_reducible rfl
  simp only [Act.put, List.setIfInBounds_toArray, List.set_cons_succ, List.set_cons_zero]
  refine' wpAnyH_take (i := 4) ?h1x4k ?hsx4k ?hfx4k ?hrx4k ?hQx4k (Or.inl ⟨?hwx4k, ?hyx4k⟩) hS ?restx4k
  case h1x4k => (simp only [List.getElem?_toArray, List.getElem?_cons_succ, List.getElem?_cons_zero]; rfl)
  case hsx4k | hfx4k | hrx4k => kernel_rfl
  case hQx4k => exact fun _ _ _ h => h
  case hwx4k => rfl
  case hyx4k =>
    intro W hW
    go_simp
    try with_reducible rfl
  simp only [Act.put, List.setIfInBounds_toArray, List.set_cons_succ, List.set_cons_zero]
  refine' wpAnyH_take (i := 8) ?h1x8k ?hsx8k ?hfx8k ?hrx8k ?hQx8k (Or.inl ⟨?hwx8k, ?hyx8k⟩) hS ?restx8k
  case h1x8k => (simp only [List.getElem?_toArray, List.getElem?_cons_succ, List.getElem?_cons_zero]; rfl)
  case hsx8k | hfx8k | hrx8k => kernel_rfl
  case hQx8k => exact fun _ _ _ h => h
  case hwx8k => rfl
  case hyx8k =>
    intro W hW
    go_simp
    try with_reducible rfl
  simp only [Act.put, List.setIfInBounds_toArray, List.set_cons_succ, List.set_cons_zero]
  refine' wpAnyH_take (i := 10) ?h1x10k ?hsx10k ?hfx10k ?hrx10k ?hQx10k (Or.inl ⟨?hwx10k, ?hyx10k⟩) hS ?restx10k
  case h1x10k => (simp only [List.getElem?_toArray, List.getElem?_cons_succ, List.getElem?_cons_zero]; rfl)
  case hsx10k | hfx10k | hrx10k => kernel_rfl
  case hQx10k => exact fun _ _ _ h => h
  case hwx10k => rfl
  case hyx10k =>
    intro W hW
    go_simp
    try with_reducible rfl
  simp only [Act.put, List.setIfInBounds_toArray, List.set_cons_succ, List.set_cons_zero]
  refine' wpAnyH_take (i := 1) ?h1x1k ?hsx1k ?hfx1k ?hrx1k ?hQx1k (Or.inl ⟨?hwx1k, ?hyx1k⟩) hS ?restx1k
  case h1x1k => (simp only [List.getElem?_toArray, List.getElem?_cons_succ, List.getElem?_cons_zero]; rfl)
  case hsx1k | hfx1k | hrx1k => kernel_rfl
  case hQx1k => exact fun _ _ _ h => h
  case hwx1k => rfl
  case hyx1k =>
    intro W hW
    go_simp
    try with_reducible rfl
  simp only [Act.put, List.setIfInBounds_toArray, List.set_cons_succ, List.set_cons_zero]
  refine' wpAnyH_take (i := 5) ?h1x5k ?hsx5k ?hfx5k ?hrx5k ?hQx5k (Or.inl ⟨?hwx5k, ?hyx5k⟩) hS ?restx5k
  case h1x5k => (simp only [List.getElem?_toArray, List.getElem?_cons_succ, List.getElem?_cons_zero]; rfl)
  case hsx5k | hfx5k | hrx5k => kernel_rfl
  case hQx5k => exact fun _ _ _ h => h
  case hwx5k => rfl
  case hyx5k =>
    intro W hW
    go_simp
    try with_reducible rfl
  simp only [Act.put, List.setIfInBounds_toArray, List.set_cons_succ, List.set_cons_zero]
  refine' wpAnyH_take (i := 2) ?h1x2k ?hsx2k ?hfx2k ?hrx2k ?hQx2k (Or.inl ⟨?hwx2k, ?hyx2k⟩) hS ?restx2k
  case h1x2k => (simp only [List.getElem?_toArray, List.getElem?_cons_succ, List.getElem?_cons_zero]; rfl)
  case hsx2k | hfx2k | hrx2k => kernel_rfl
  case hQx2k => exact fun _ _ _ h => h
  case hwx2k => rfl
  case hyx2k =>
    intro W hW
    go_simp
    try with_reducible rfl
  simp only [Act.put, List.setIfInBounds_toArray, List.set_cons_succ, List.set_cons_zero]
  refine' wpAnyH_take (i := 6) ?h1x6k ?hsx6k ?hfx6k ?hrx6k ?hQx6k (Or.inl ⟨?hwx6k, ?hyx6k⟩) hS ?restx6k
  case h1x6k => (simp only [List.getElem?_toArray, List.getElem?_cons_succ, List.getElem?_cons_zero]; rfl)
  case hsx6k | hfx6k | hrx6k => kernel_rfl
  case hQx6k => exact fun _ _ _ h => h
  case hwx6k => rfl
  case hyx6k =>
    intro W hW
    go_simp
    try with_reducible rfl
  simp only [Act.put, List.setIfInBounds_toArray, List.set_cons_succ, List.set_cons_zero]
  refine' wpAnyH_take (i := 3) ?h1x3k ?hsx3k ?hfx3k ?hrx3k ?hQx3k (Or.inl ⟨?hwx3k, ?hyx3k⟩) hS ?restx3k
  case h1x3k => (simp only [List.getElem?_toArray, List.getElem?_cons_succ, List.getElem?_cons_zero]; rfl)
  case hsx3k | hfx3k | hrx3k => kernel_rfl
  case hQx3k => exact fun _ _ _ h => h
  case hwx3k => rfl
  case hyx3k =>
    intro W hW
    have dd := (PLM.out W hW).c0
    go_simp
    try with_reducible rfl
  simp only [Act.put, List.setIfInBounds_toArray, List.set_cons_succ, List.set_cons_zero]
  refine' wpAnyH_take (i := 7) ?h1x7k ?hsx7k ?hfx7k ?hrx7k ?hQx7k (Or.inl ⟨?hwx7k, ?hyx7k⟩) hS ?restx7k
  case h1x7k => (simp only [List.getElem?_toArray, List.getElem?_cons_succ, List.getElem?_cons_zero]; rfl)
  case hsx7k | hfx7k | hrx7k => kernel_rfl
  case hQx7k => exact fun _ _ _ h => h
  case hwx7k => rfl
  case hyx7k =>
    intro W hW
    have dd := (PLM.out W hW).c3
    go_simp
    try with_reducible rfl
  simp only [Act.put, List.setIfInBounds_toArray, List.set_cons_succ, List.set_cons_zero]
  refine wpAnyH_ready (rs := [9]) (by kernel_rfl) (by simp) ?_
  refine' (AllReadyH.cons ?hoc9k (fun K hK => ?stc9k) AllReadyH.nil)
  case hoc9k => (simp only [List.getElem?_toArray, List.getElem?_cons_succ, List.getElem?_cons_zero]; rfl)
  go_simp
  refine (sector A.gb A.fr n Ws H.out.pool.b0 HF2.out).mono ?_
  rintro e w' ⟨rfl, rfl⟩
  go_wp2_with fail
  refine hK.out _ _ hS (fun hHeld => ?_)
  clear hK K
  try simp only [Act.put, List.setIfInBounds_toArray, List.set_cons_succ, List.set_cons_zero]
  clear hS
  have hS := hHeld
  clear hHeld
  refine wpAnyH_ready (rs := [11]) (by kernel_rfl) (by simp) ?_
  refine' (AllReadyH.cons ?hoc11kx9 (fun K hK => ?stc11kx9) AllReadyH.nil)
  case hoc11kx9 => (simp only [List.getElem?_toArray, List.getElem?_cons_succ, List.getElem?_cons_zero]; rfl)
  go_simp
  refine (WRT.out Ws H.out V.out).mono ?_
  rintro e w4 ⟨D', rfl, hp4, hm4, hdf⟩
  have HDF := Lib.hid hdf
  clear hdf
  have V4 := Lib.hid (dk.TX.mods V.out hm4 (fun b cs hc hd => (dk.pv.DK.kinds H.out.dk).1 b cs hc hd))
  have H4 := Lib.hid hp4
  have hS4 := hS.trans hm4 (fun b hb => .inl hb)
  clear H V hp4 hm4
  go_wp2_with fail
  refine hK.out _ _ hS4 (fun hHeld => ?_)
  clear hK K hS4
  try simp only [Act.put, List.setIfInBounds_toArray, List.set_cons_succ, List.set_cons_zero]
  clear hS
  have hS := hHeld
  clear hHeld
  refine' wpAnyH_take (i := 12) ?h1x12kx9x11 ?hsx12kx9x11 ?hfx12kx9x11 ?hrx12kx9x11 ?hQx12kx9x11 (Or.inl ⟨?hwx12kx9x11, ?hyx12kx9x11⟩) hS ?restx12kx9x11
  case h1x12kx9x11 => (simp only [List.getElem?_toArray, List.getElem?_cons_succ, List.getElem?_cons_zero]; rfl)
  case hsx12kx9x11 | hfx12kx9x11 | hrx12kx9x11 => kernel_rfl
  case hQx12kx9x11 => exact fun _ _ _ h => h
  case hwx12kx9x11 => rfl
  case hyx12kx9x11 =>
    intro W hW
    go_simp
    try with_reducible rfl
  simp only [Act.put, List.setIfInBounds_toArray, List.set_cons_succ, List.set_cons_zero]
  refine wpAnyH_done (by kernel_rfl) ?_ _
  have G4 := Lib.hid ((hS.block _ (blk_lt G3.out) DTN.out).trans G3.out)
  have M4 : Hid (dk.Mods (Oth A D S) w w4) := M3.out.trans hS (fun b hb => .inl (.inl hb))
  have Z4 : Hid (w.heap.size < w4.heap.size) := Nat.lt_of_lt_of_le Z3.out hS.size
  have c1 := H4.out.pool.c1
  have DR : Hid (Calls Tryd.prog 15 #[.pointer (some ⟨A.gf, 0, none⟩), .int .i64 t, .int .u32 (n : Int)] w4 fun e w' => e = .returned (.int .i64 0) ∧ ex.FS w' A.gf A.rb A.mb A.wb A.ct s ∧ ex.Mods (ex.Ft A.gf A.mb A.wb) w4 w') := by
    have hh := ex.drpS H4.out.fd t n (by have := HF2.out; omega)
    unfold ex.CS at hh
    rw [HDS.out] at hh
    exact hh
  clear hS PLM WRT G3 M3 Z3
  go_wp2_with fail
  refine DR.out.mono ?_
  rintro e w5 ⟨rfl, hf5, hm5⟩
  have H5 := Lib.hid (H4.out.field hf5 hm5)
  have G5 := Lib.hid ((hm5.block _ (blk_lt G4.out) FTN.out).trans G4.out)
  have M5 : Hid (dk.Mods (Oth A D S) w w5) := M4.out.trans (dkm hm5) (fun b hb => .inl (.inr (.inl hb)))
  clear hf5 hm5 DR c1
  go_wp2_with (first | (refine wpList_blank rfl 26 rfl (HBL.out _) ?_) | (refine wpList_store_row rfl 26 (.tmp 6) (.tmp 55) rfl w.heap.size Z rfl rfl 26 Z G5.out IZ.out rfl OZ.out ?_))
  have FIN := Lib.hid (setRow_heap w5 w.heap.size _ Z 26 _ G5.out)
  refine bodyPost_ret (v := .tuple #[.agg Z, .int .i64 30]) (dk.results_cell_tmp Tryd.results7 _ _ w.heap.size 26 Z (0, 0) _ rfl FIN.out Tryd.underlying26 rfl IZ.out) rfl ?_
  exact PPe.out _ _ ⟨D', rfl, H5.out.other (modsRow w5 w.heap.size Z) G5.out NS.out H2.out, HDF.out, M5.out.trans (modsRow w5 w.heap.size Z) (fun b hb => .inr (by omega))⟩
end Go.Proofs.YtjdamlmoegippaaDoor.pl
