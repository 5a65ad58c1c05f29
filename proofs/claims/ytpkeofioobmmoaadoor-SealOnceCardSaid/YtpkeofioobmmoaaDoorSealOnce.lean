/-
  For all lists of epochs and of bytes the law SealOnce of package casematelaw22 returns true, and they read afterwards as before: sealers of one counter, and of counters of unlike epochs, seal no two blocks with one stamp, whatever is sealed, in whatever order. Condition: none.
-/
import Derived.Test.YtpkeofioobmmoaaDoorK3
import Derived.Test.YtpkeofioobmmoaaDoorAeSE
import Derived.Deep.QuietTactic
import Derived.BigQuiet
import Derived.Deep.DeepCutAuto
namespace Go.Proofs.YtpkeofioobmmoaaDoor.sealOnce
open Go.ChangeShapes Go.WideShapes Go.ChangeAt Go.RowKit Go.Proofs.YtpkeofioobmmoaaDoor.ae
set_option maxRecDepth 100000 in
set_option maxHeartbeats 1000000 in
theorem walkBig (x y : Option Addr) (L M c d : Nat) (h : 6 < L ∨ 12 < M) (w : World) (hG : sh.Glob w) :
    Calls Tryd.prog 10 #[.slice x L c, .slice y M d] w fun e w' => e = .returned (.bool true) ∧ Below w.heap.size w w' := by
  by_cases h1 : (6 : Int) < L
  · clear h
    go_enter Tryd.func10, Tryd.ntmps10
    go_wp2_with fail
    refine (alive22 _ hG).mono ?_
    rintro e w1 ⟨rfl, hb⟩
    go_wp2_with fail
    go_ret
    exact ⟨rfl, hb⟩
  · have h2 : (12 : Int) < M := by omega
    clear h
    go_enter Tryd.func10, Tryd.ntmps10
    go_wp2_with fail
    refine (alive22 _ hG).mono ?_
    rintro e w1 ⟨rfl, hb⟩
    go_wp2_with fail
    go_ret
    exact ⟨rfl, hb⟩
theorem else_grown {w w' : World} {g : Nat} (h : Elsewhere g w w') : w.grownBy w' (some g) := by
  have b := h.2.1 0 w (Nat.zero_le _) (Nat.zero_le _) (Below.refl _ _)
  exact ⟨b.os, b.tape, b.output, h.2.2, fun j hj hne => h.1 j hj (fun e => hne (by rw [e]))⟩
theorem ST.lower {w w' : World} {E C G S : Nat → Nat} {k B : Nat} (h : ST w E C G S k) (hb : Below B w w') (hg : ∀ t, t < k → G t < B) (hs : ∀ j, j < 2 * k → S j < B) : ST w' E C G S k :=
  ⟨fun t ht => (hb.block _ (hg t ht)).trans (h.1 t ht), fun j hj => (hb.block _ (hs j hj)).trans (h.2 j hj)⟩
theorem info22 : (Tryd.prog.info? 22).map (fun i => (i.zero, i.size, i.bytes)) = some (some (.int .u64 0), 1, 8) := by kernel_rfl
/-- The stamps that were told are of counters' pasts. -/
def Past (E C : Nat → Nat) (k : Nat) (zs : List Int) : Prop := ∀ z ∈ zs, ∃ t c, t < k ∧ c ≤ C t ∧ z = ((stm (E t) c : Nat) : Int)
theorem Past.apart {E C : Nat → Nat} {k t : Nat} {zs : List Int} (h : Past E C k zs) (ht : t < k) (hd : ∀ a b, a < b → b < k → E a ≠ E b) (hC : ∀ t, C t ≤ 100) : ∀ z ∈ zs, z ≠ ((stm (E t) (C t + 1) : Nat) : Int) := fun z hz e => by
  obtain ⟨u, c, hu, hc, rfl⟩ := h z hz
  have h1 := hC t
  have h2 := hC u
  unfold stm at e
  rcases Nat.lt_trichotomy u t with h | h | h
  · have := hd u t h ht
    omega
  · subst h
    omega
  · have := hd t u h hu
    omega
theorem Past.more {E C : Nat → Nat} {k t : Nat} {zs : List Int} (h : Past E C k zs) (ht : t < k) : Past E (upd C t (C t + 1)) k (zs ++ [((stm (E t) (C t + 1) : Nat) : Int)]) := fun z hz => by
  rcases List.mem_append.1 hz with hz | hz
  · obtain ⟨u, c, hu, hc, e⟩ := h z hz
    refine ⟨u, c, hu, ?_, e⟩
    by_cases hut : u = t
    · subst hut; rw [upd_eq]; omega
    · rw [upd_ne _ _ hut]; exact hc
  · refine ⟨t, C t + 1, ht, ?_, by simpa using hz⟩
    rw [upd_eq]
    exact Nat.le_refl _
theorem upd_le {C : Nat → Nat} {t j : Nat} (h : ∀ t, C t ≤ j) : ∀ u, upd C t (C t + 1) u ≤ j + 1 := fun u => by
  by_cases e : u = t
  · subst e; rw [upd_eq]; have := h u; omega
  · rw [upd_ne _ _ e]; have := h u; omega
set_option maxRecDepth 100000 in
set_option maxHeartbeats 64000000 in
theorem walk (es bo : List Nat) (x y : Option Addr) (L M cx cy : Nat) (hL : L = es.length) (hM : M = bo.length) (hl : L ≤ 6) (hm : M ≤ 12) (w : World) (hx : SeesU w (.slice x L cx) es) (hy : ae.Sees w (.slice y M cy) bo) (hG : sh.Glob w) :
    Calls Tryd.prog 10 #[.slice x L cx, .slice y M cy] w fun e w' => e = .returned (.bool true) ∧ Below w.heap.size w w' := by
  have t0 : ¬ (6 : Int) < L := by omega
  have t1 : ¬ (12 : Int) < M := by omega
  have AL : Hid (∀ W : World, sh.Glob W → Calls Tryd.prog 21 #[] W fun e w' => e = .returned (.bool true) ∧ Below W.heap.size W w') := fun W hg => alive22 W hg
  have CN : Hid (∀ (W : World) (e : Nat), e ≤ 16777215 → Calls Tryd.prog 15 #[.int .u64 e] W fun x w' => x = .returned (.tuple #[.pointer (some ⟨W.heap.size, 0, none⟩), .int .i64 0]) ∧ CT w' W.heap.size e 0 ∧ Below W.heap.size W w') := fun W e h => countOK e h W
  have CB : Hid (∀ (W : World) (e : Nat), 16777215 < e → Calls Tryd.prog 15 #[.int .u64 e] W fun x w' => x = .returned (.tuple #[.pointer none, .int .i64 5]) ∧ W = w') := fun W e h => countNo e h W
  have NS : Hid (∀ (W : World) (n : Nat) (c : Option Addr), Calls Tryd.prog 25 #[.agg (ncells xk1), .int .u64 n, .pointer c] W fun e w' => ∃ g, e = .returned (.pointer (some ⟨g, 0, none⟩)) ∧ W.heap.size ≤ g ∧ SLat w' g xk1 n c ∧ Below W.heap.size W w') := fun W n c => newSealer xk1 xk1_bts n c W
  have BL : Hid (∀ (W : World) (b : List Nat) (x : Option Addr) (L cap : Nat), ae.Sees W (.slice x L cap) b → L = b.length → L ≤ 512 → Calls Tryd.prog 26 #[.slice x L cap] W (BlkP W b)) := fun W b x L cap h h1 h2 => blockC b x L cap W h h1 h2
  have SS : Hid (∀ (W : World) (gs g e c n : Nat) (b : List Nat) (x : Option Addr) (cap : Nat), n ≤ 18446744073709551615 → e ≤ 16777215 → c ≤ 100 → SLat W gs xk1 n (some ⟨g, 0, none⟩) → CT W g e c → ae.Sees W (.slice x 512 cap) b → (∀ o, x ≠ some ⟨g, o, none⟩) → 512 = b.length → sh.Glob W → 2 ≤ g → Calls Tryd.prog 27 #[.pointer (some ⟨gs, 0, none⟩), .slice x 512 cap] W (SealP W xk1 n g e c b)) :=
    fun W gs g e c n b x cap hn he hc h1 h2 h3 h4 h5 h6 h7 => sealerSeal gs g e c n xk1 b xk1_bts hn he (by omega) x cap W h1 h2 h3 h4 h5 h6 h7
  have HM512 : Hid (M ≤ 512) := by show _ ≤ _; omega
  have HX := Lib.hid hx
  have HY := Lib.hid hy
  have HG := Lib.hid hG
  have HL6 : Hid (L ≤ 6) := hl
  have HM12 : Hid (M ≤ 12) := hm
  have HLE : Hid (L = es.length) := hL
  have HME : Hid (M = bo.length) := hM
  obtain ⟨E, hE⟩ : ∃ E : Nat → Nat, ∀ i, E i = at_ es i := ⟨fun i => at_ es i, fun _ => rfl⟩
  have HE := Lib.hid hE
  obtain ⟨B, hB⟩ : ∃ B, B = w.heap.size := ⟨_, rfl⟩
  have HB := Lib.hid hB
  clear hx hy hG hl hm hL hM hE hB
  rw [← HB.out]
  go_enter Tryd.func10, Tryd.ntmps10
  go_wp2_with fail
  clear t0 t1
  go_loopw [5, 6, 7, 8, 9] (fun vs vi _ _ _ wr => ∃ (i : Nat) (q : Option Addr) (cap : Nat) (G S : Nat → Nat), i ≤ L ∧ vi = .int .i64 (i : Int) ∧ vs = .slice q (2 * i : Nat) cap ∧ OwnV wr B (.slice q (2 * i : Nat) cap) (pv S i) ∧ ST wr E (fun _ => 0) G S i ∧ (∀ t, t < i → E t ≤ 16777215 ∧ B ≤ G t) ∧ (∀ a b, a < b → b < i → E a ≠ E b) ∧ Below B w wr) (fun _ vi _ _ _ _ => 10 - (intOf vi).toNat)
  case atStart => exact ⟨0, none, 0, fun _ => 0, fun _ => 0, by omega, rfl, rfl, ownv_nil _ _, ⟨fun t h => absurd h (by omega), fun j h => absurd h (by omega)⟩, fun t h => absurd h (by omega), fun a b _ h => absurd h (by omega), Below.refl _ _⟩
  case round =>
    obtain ⟨i, q, cap, G, S, hi, rfl, rfl, ho, hst, hok, hds, hbel⟩ := hrel
    have HO := Lib.hid ho
    have HST := Lib.hid hst
    have HOK := Lib.hid hok
    have HDS := Lib.hid hds
    have BE := Lib.hid hbel
    have GG := Lib.hid (HG.out.below (by rw [HB.out] at hbel; exact hbel) HG.out.lt)
    have SZ : Hid (B ≤ wr.heap.size) := by show _ ≤ _; rw [HB.out]; exact hbel.size
    by_cases hlt : i < L
    · have t1 : (i : Int) < (L : Int) := by omega
      have t2 : (0 : Int) ≤ (i : Int) := by omega
      have t6 : (i : Int) ≤ 5 := by have := HL6.out; omega
      obtain ⟨bx, ox, hxe, hcx⟩ := HX.out.at (by rw [← HLE.out]; omega)
      subst hxe
      have HCX : Hid (∀ j, j < L → ∀ W : World, Below B w W → W.cell? ⟨bx, ox + j, none⟩ = some (.int .u64 (E j : Nat))) := fun j hj W hW => by
        have h1 := hcx j (by rw [← HLE.out]; exact hj)
        rw [hW.cell (p := ⟨bx, ox + j, none⟩) (by rw [HB.out]; exact World.block_lt_of_cell? w _ h1), h1, HE.out]
      have HIL := Lib.hid hlt
      clear hi hlt ho hst hok hds hbel hcx
      go_wp2_with fail
      obtain ⟨wo, rfl⟩ : ∃ wo : World, wo = wr := ⟨_, rfl⟩
      go_loopw [7] (fun vk wr2 => ∃ k : Nat, k ≤ i ∧ vk = .int .i64 (k : Int) ∧ (∀ t, t < k → E t ≠ E i) ∧ Below wo.heap.size wo wr2) (fun vk _ => 10 - (intOf vk).toNat)
      case atStart => exact ⟨0, by omega, rfl, fun t h => absurd h (by omega), Below.refl _ _⟩
      case round =>
        obtain ⟨k, hk, rfl, hne, hb2⟩ := hrel
        have hb2' := hb2
        have BE2 := Lib.hid (BE.out.trans (hb2'.mono SZ.out))
        have GG2 := Lib.hid (GG.out.below hb2' GG.out.lt)
        have HB2 := Lib.hid hb2'
        have HB2o := Lib.hid hb2
        have HNE := Lib.hid hne
        have HKI := Lib.hid hk
        by_cases hki : k < i
        · have t3 : (k : Int) < (i : Int) := by omega
          have t4 : (0 : Int) ≤ (k : Int) := by omega
          have t5 : (k : Int) < (L : Int) := by omega
          have ca := fun n => HCX.out k (by have := HIL.out; omega) (wr.drewN n) ⟨BE2.out.os, BE2.out.tape, BE2.out.output, BE2.out.size, BE2.out.block⟩
          have cb := fun n => HCX.out i HIL.out (wr.drewN n) ⟨BE2.out.os, BE2.out.tape, BE2.out.output, BE2.out.size, BE2.out.block⟩
          have HK2 := Lib.hid hki
          by_cases heq : E k = E i
          · have te : (((E k : Nat) : Int) == ((E i : Nat) : Int)) = true := by simp [heq]
            clear hk hne hb2 hb2' hki heq
            go_wp2_with fail
            go_quiet (fail)
            clear ca cb te
            have BE3 : Hid (Below B w (wr.drewN nq)) := ⟨BE2.out.os, BE2.out.tape, BE2.out.output, BE2.out.size, BE2.out.block⟩
            have GG3 : Hid (sh.Glob (wr.drewN nq)) := GG2.out
            go_wp2_with fail
            refine (AL.out _ GG3.out).mono ?_
            rintro xz wz ⟨rfl, hb⟩
            have BZ := Lib.hid (BE3.out.trans (hb.mono (by have := BE3.out.size; have := HB.out; omega)))
            clear hb
            go_wp2_with fail
            go_ret
            exact ⟨rfl, BZ.out⟩
          · have te : (((E k : Nat) : Int) == ((E i : Nat) : Int)) = false := by simp; omega
            have HQ := Lib.hid heq
            clear hk hne hb2 hb2' hki heq
            go_wp2_with fail
            go_quiet (fail)
            clear ca cb te
            go_wp2_with fail
            go_roundw
            case rel => exact ⟨k + 1, by have := HK2.out; omega, by go_num, fun t ht => by
              rcases Nat.lt_or_ge t k with h | h
              · exact HNE.out t h
              · obtain rfl : t = k := by omega
                exact HQ.out, ⟨HB2o.out.os, HB2o.out.tape, HB2o.out.output, HB2o.out.size, HB2o.out.block⟩⟩
            case measure => have := HK2.out; simp [intOf]; omega
        · have t3 : ¬ (k : Int) < (i : Int) := by omega
          have ca := HCX.out i HIL.out wr BE2.out
          have HNI : Hid (∀ t, t < i → E t ≠ E i) := fun t ht => hne t (by omega)
          have HO2 := Lib.hid (HO.out.below hb2')
          have HS2 := Lib.hid (HST.out.below hb2')
          have SZ2 := Lib.hid (Nat.le_trans SZ.out hb2'.size)
          clear hk hne hb2 hb2' hki HO HST BE GG SZ HB2 HB2o
          by_cases hbig : 16777215 < E i
          · have cb := CB.out wr (E i) hbig
            have CBJ := Lib.hid cb
            clear cb hbig
            go_wp2_with fail
            refine CBJ.out.mono ?_
            rintro x3 w3 ⟨rfl, rfl⟩
            go_wp2_with fail
            refine (AL.out _ GG2.out).mono ?_
            rintro xz wz ⟨rfl, hb⟩
            have BZ := Lib.hid (BE2.out.trans (hb.mono (by have := BE2.out.size; have := HB.out; omega)))
            clear hb
            go_wp2_with fail
            go_ret
            exact ⟨rfl, BZ.out⟩
          · have cn := CN.out wr (E i) (by omega)
            have CNJ := Lib.hid cn
            have HEI : Hid (E i ≤ 16777215) := by show _ ≤ _; omega
            clear cn hbig
            go_wp2_with fail
            refine CNJ.out.mono ?_
            rintro x3 w3 ⟨rfl, hct, hb⟩
            have HO3 := Lib.hid (HO2.out.below hb)
            have HS3 := Lib.hid (HS2.out.below hb)
            have BE3 := Lib.hid (BE2.out.trans (hb.mono SZ2.out))
            have SZ3 := Lib.hid (Nat.le_trans SZ2.out hb.size)
            have C3 := Lib.hid hct
            clear hct hb ca CNJ HO2 HS2
            obtain ⟨g, hg⟩ : ∃ g, g = wr.heap.size := ⟨_, rfl⟩
            rw [← hg] at C3 ⊢
            have HGB : Hid (B ≤ g) := by rw [hg]; exact SZ2.out
            clear hg
            go_wp2_with fail
            refine (NS.out _ 7 _).mono ?_
            rintro x4 w4 ⟨s1, rfl, _, hs1, hb⟩
            have HO4 := Lib.hid (HO3.out.below hb)
            have HS4 := Lib.hid (HS3.out.below hb)
            have BE4 := Lib.hid (BE3.out.trans (hb.mono SZ3.out))
            have SZ4 := Lib.hid (Nat.le_trans SZ3.out hb.size)
            have C4 := Lib.hid (C3.out.below hb)
            have A4 := Lib.hid hs1
            clear hs1 hb HO3 HS3 BE3 C3
            go_wp2_with fail
            refine (NS.out _ 8 _).mono ?_
            rintro x5 w5 ⟨s2, rfl, _, hs2, hb⟩
            have ho5 := HO4.out.below hb
            have hs5 := HS4.out.below hb
            have be5 := BE4.out.trans (hb.mono SZ4.out)
            have sz5 := Nat.le_trans SZ4.out hb.size
            have c5 := C4.out.below hb
            have a5 := A4.out.below hb
            obtain ⟨q', cap', w6, hr, ho', hb', hgr⟩ := ho5.push2 (by rw [pv_len]; have := HL6.out; have := HIL.out; omega) sz5 (some ⟨s1, 0, none⟩) (some ⟨s2, 0, none⟩)
            have al : Below w5.heap.size w5 (w5.alloc (.cells #[.pointer (some ⟨s1, 0, none⟩), .pointer (some ⟨s2, 0, none⟩)] 55)) := (Below.refl _ _).alloc (Nat.le_refl _) _
            have hri := (ho5.below al).rowIs
            have st6 := ((hs5.below al).grown hgr hri).more (grown_block hgr hri (c5.below al) (by decide)) (grown_block hgr hri (a5.below al) (by decide)) (grown_block hgr hri (hs2.below al) (by decide))
            rw [← pv_more, pv_len] at ho'
            rw [pv_len] at hr
            have HR := Lib.hid hr
            have HO6 := Lib.hid ho'
            have HS6 := Lib.hid st6
            have BE6 := Lib.hid (be5.trans (hb'.mono (Nat.le_refl _)))
            clear hs2 hb ho5 hs5 be5 sz5 c5 a5 hr ho' hb' hgr al hri st6 HO4 HS4 BE4 SZ4 C4 A4
            go_wp2_with (at_builtin; refine wpList_appK 64 rfl _ _ rfl rfl rfl rfl HR.out ?_)
            go_roundw
            case rel =>
              refine ⟨i + 1, q', cap', upd G i g, upd (upd S (2 * i) s1) (2 * i + 1) s2, by have := HIL.out; omega, by go_num, rfl, HO6.out, HS6.out, fun t ht => ?_, fun a b hab hbi => ?_, BE6.out⟩
              · by_cases e : t = i
                · subst e; rw [upd_eq]; exact ⟨HEI.out, HGB.out⟩
                · rw [upd_ne _ _ e]; exact HOK.out t (by omega)
              · by_cases e : b = i
                · subst e; exact HNI.out a hab
                · exact HDS.out a b hab (by omega)
            case measure => have := HIL.out; have := HL6.out; simp [intOf]; omega
    · have t1 : ¬ (i : Int) < (L : Int) := by omega
      have HIL6 : Hid (i ≤ 6) := by have := HL6.out; show _ ≤ _; omega
      obtain ⟨gq, cur, hq0⟩ : ∃ (gq : Nat) (cur : Array Value), 0 < i → q = some ⟨gq, 0, none⟩ ∧ B ≤ gq ∧ wr.heap[gq]? = some (.cells cur 55 (0, 0)) ∧ ∀ j, j < 2 * i → cur[j]? = some (.pointer (some ⟨S j, 0, none⟩)) := by
        rcases Nat.eq_zero_or_pos i with h | h
        · exact ⟨0, #[], fun k => by omega⟩
        · obtain ⟨g, cp, cur, hv, h1, h2, _, h3⟩ := ho.row (by rw [pv_len]; omega)
          simp only [Value.slice.injEq] at hv
          exact ⟨g, cur, fun _ => ⟨hv.1, h1, h2, fun j hj => by rw [h3 j (by rw [pv_len]; exact hj), pv_at _ _ _ hj]⟩⟩
      have ROW : Hid (0 < i → wr.heap[gq]? = some (.cells cur 55 (0, 0))) := fun h => (hq0 h).2.2.1
      have HQ0 : Hid (0 < i → q = some ⟨gq, 0, none⟩ ∧ ∀ j, j < 2 * i → cur[j]? = some (.pointer (some ⟨S j, 0, none⟩))) := fun h => ⟨(hq0 h).1, (hq0 h).2.2.2⟩
      obtain ⟨B2, hB2⟩ : ∃ B2, B2 = wr.heap.size := ⟨_, rfl⟩
      have HB2 := Lib.hid hB2
      have HGL : Hid (∀ t, t < i → G t < B2) := fun t ht => by rw [hB2]; exact blk_lt (hst.1 t ht)
      have HSL : Hid (∀ j, j < 2 * i → S j < B2) := fun j hj => by rw [hB2]; exact blk_lt (hst.2 j hj)
      have HQL : Hid (0 < i → gq < B2) := fun h => by rw [hB2]; exact blk_lt (hq0 h).2.2.1
      have HBB : Hid (B ≤ B2) := by show _ ≤ _; rw [hB2]; exact SZ.out
      obtain ⟨N2, hN2⟩ : ∃ N2, N2 = 2 * i := ⟨_, rfl⟩
      have HN2 := Lib.hid hN2
      rw [← hN2]
      clear hi hlt ho hst hok hds hbel hq0 hB2 hN2 HO
      go_wp2_with fail
      clear t1
      go_loopw [10, 11, 12, 13, 14, 15] (fun v vi _ _ _ _ wr => ∃ (j : Nat) (q2 : Option Addr) (cap2 : Nat) (zs : List Int) (C : Nat → Nat), j ≤ M ∧ vi = .int .i64 (j : Int) ∧ v = .slice q2 j cap2 ∧ zs.length = j ∧ OwnK .u64 22 wr B2 (.slice q2 j cap2) zs ∧ Past E C i zs ∧ (∀ t, C t ≤ j) ∧ ST wr E C G S i ∧ (0 < i → wr.heap[gq]? = some (.cells cur 55 (0, 0))) ∧ Below B w wr ∧ B2 ≤ wr.heap.size) (fun _ vi _ _ _ _ _ => 20 - (intOf vi).toNat)
      case atStart => exact ⟨0, none, 0, [], fun _ => 0, by omega, rfl, rfl, rfl, ownk_nil _ _ _ _, fun z h => by simp at h, fun _ => Nat.le_refl _, HST.out, ROW.out, BE.out, by rw [HB2.out]; exact Nat.le_refl _⟩
      case round =>
        clear HST ROW BE GG SZ HB2
        obtain ⟨j, q2, cap2, zs, C, hj, rfl, rfl, hzl, ho, hzs, hC, hst, hrow, hbel, hsz⟩ := hrel
        have GG := Lib.hid (HG.out.below (by rw [HB.out] at hbel; exact hbel) HG.out.lt)
        have BE := Lib.hid hbel
        have SZ := Lib.hid hsz
        have SZ0 : Hid (B ≤ wr.heap.size) := Nat.le_trans HBB.out hsz
        by_cases hjm : j < M
        · by_cases hi0 : 0 < i
          · have t1 : (j : Int) < (M : Int) := by omega
            have t2 : (0 : Int) < (N2 : Int) := by have := HN2.out; omega
            have t3 : (0 : Int) ≤ (j : Int) := by omega
            obtain ⟨hq, hcur⟩ := HQ0.out hi0
            subst hq
            obtain ⟨by_, oy, hye, hyn, _, _, hcy⟩ := HY.out.cells (fun e => by have := HME.out; rw [e] at this; simp at this; omega)
            clear hyn
            subst hye
            obtain ⟨ob, hob⟩ : ∃ ob, ob = at_ bo j := ⟨_, rfl⟩
            have hcell : w.cell? ⟨by_, oy + j, none⟩ = some (.int .u8 (ob : Nat)) := by rw [hob]; exact hcy j (by rw [← HME.out]; exact hjm)
            have HOC : Hid (∀ W : World, Below B w W → W.cell? ⟨by_, oy + j, none⟩ = some (.int .u8 (ob : Nat))) := fun W hW => by rw [hW.cell (p := ⟨by_, oy + j, none⟩) (by rw [HB.out]; exact World.block_lt_of_cell? w _ hcell)]; exact hcell
            have hob2 : ob < 256 := by rw [hob]; exact HY.out.1.at j
            have t4 : (ob : Int) ≤ 255 := by omega
            obtain ⟨r, hr⟩ : ∃ r, r = ob % N2 := ⟨_, rfl⟩
            have hr2 : r < 2 * i := by rw [hr, ← HN2.out]; exact Nat.mod_lt _ (by omega)
            have t5 : (ob : Int) % (N2 : Int) = (r : Int) := by rw [hr]; simp
            have t6 : ob % N2 = r := hr.symm
            have t7 : (r : Int) < (N2 : Int) := by have := HN2.out; omega
            have t8 : (N2 : Int) ≤ 12 := by have := HN2.out; have := HIL6.out; omega
            have t9 : (0 : Int) ≤ (r : Int) := by omega
            have N20 : Hid (¬ N2 = 0) := by show ¬ _; omega
            have WR8 : Hid ((IntKind.i64.wrap (ob : Int)).tmod (N2 : Int) = (r : Int)) := by
              show _ = _
              rw [IntWalk.i64_in _ (by omega), IntWalk.rem_in _ _ (by omega)]
              exact t5
            obtain ⟨t, ht⟩ : ∃ t, t = r / 2 := ⟨_, rfl⟩
            have hti : t < i := by omega
            obtain ⟨sr, hsr⟩ : ∃ sr, sr = S r := ⟨_, rfl⟩
            obtain ⟨gt, hgt⟩ : ∃ gt, gt = G t := ⟨_, rfl⟩
            obtain ⟨sv, hsv⟩ : ∃ sv, sv = stm (E t) (C t + 1) := ⟨_, rfl⟩
            have hcr : cur[r]? = some (.pointer (some ⟨sr, 0, none⟩)) := by rw [hsr]; exact hcur r hr2
            have SLJ : Hid (∀ (W : World) (q : Nat), ST W E C G S i → sh.Glob W → W.heap[q]? = some (.cells (ncells (padN bo)) 5 (0, 0)) → Calls Tryd.prog 27 #[.pointer (some ⟨sr, 0, none⟩), .slice (some ⟨q, 0, none⟩) 512 512] W fun x w' => ∃ q', x = .returned (.tuple #[.int .u64 (sv : Nat), .slice (some ⟨q', 0, none⟩) 512 512, .int .i64 0]) ∧ ST w' E (upd C t (C t + 1)) G S i ∧ Elsewhere gt W w') := fun W q h1 h2 h3 => by
              have hp : (padN bo).length = 512 := padN_len (by have := HM12.out; have := HME.out; omega)
              have hc := h1.1 t hti
              have hs := h1.2 r hr2
              rw [← ht] at hs
              rw [hsr, hsv, hgt]
              refine (SS.out W (S r) (G t) (E t) (C t) (7 + r % 2) (padN bo) (some ⟨q, 0, none⟩) 512 (by omega) (HOK.out t hti).1 (by have := hC t; have := HM12.out; omega) hs hc (sees_row W q _ (padN_byt HY.out.1) (by rw [hp]; decide) h3 512 hp.symm) (fun o e => ?_) hp.symm h2 (by have := (HOK.out t hti).2; have := HB.out; have := HG.out.lt; omega)).mono ?_
              · simp only [Option.some.injEq, Addr.mk.injEq] at e
                unfold CT at hc
                rw [← e.1, h3] at hc
                simp at hc
              · rintro x w' ⟨q', h4, _, _, h5, h6⟩
                exact ⟨q', h4, h1.next hti (fun a b ha hb hne => by
                  rcases Nat.lt_or_gt_of_ne hne with h | h
                  · exact HDS.out a b h hb
                  · exact fun e => HDS.out b a h ha e.symm) h5 h6, h6⟩
            have APT : Hid (∀ z ∈ zs, z ≠ ((sv : Nat) : Int)) := by rw [hsv]; exact hzs.apart hti HDS.out (fun t => by have := hC t; have := HM12.out; omega)
            have PST : Hid (Past E (upd C t (C t + 1)) i (zs ++ [((sv : Nat) : Int)])) := by rw [hsv]; exact hzs.more hti
            have CLE : Hid (∀ u, upd C t (C t + 1) u ≤ j + 1) := upd_le hC
            have HBG : Hid (B ≤ gt) := by rw [hgt]; exact (HOK.out t hti).2
            have HGT : Hid (gt < B2) := by rw [hgt]; exact HGL.out t hti
            have HST := Lib.hid hst
            have HO := Lib.hid ho
            have HZL := Lib.hid hzl
            have HJM := Lib.hid hjm
            have HI0 := Lib.hid hi0
            have HNO : Hid ((Value.slice q2 j cap2).ownBlock ≠ some gt) := fun e => by have h1 := (World.ownsRow.lt HO.out gt e).1; have h2 := HGT.out; omega
            have HGN : Hid (gq ≠ gt) := fun e => by
              have h1 := hrow hi0
              have h2 := hst.1 t hti
              unfold CT at h2
              rw [← hgt, ← e, h1] at h2
              simp at h2
            have ROW := Lib.hid (hrow hi0)
            have BW : Hid (Below wr.heap.size wr wr) := Below.refl _ _
            obtain ⟨C2, hC2⟩ : ∃ C2, C2 = upd C t (C t + 1) := ⟨_, rfl⟩
            rw [← hC2] at SLJ PST CLE
            clear hj hzl ho hzs hC hst hrow hbel hsz hjm hi0 hcur hcy hob hcell hob2 hr hr2 ht hti hsr hgt hsv hC2
            go_wp2_with fail
            refine wp_region_held_drew (S := fun W => Below B w W ∧ W.heap[gq]? = some (.cells cur 55 (0, 0))) (by kernel_rfl) (⟨⟨BE.out.os, BE.out.tape, BE.out.output, BE.out.size, BE.out.block⟩, ROW.out⟩) (fun hS => ?_)
            have hb0 : Below wr.heap.size wr wr.drew := (Below.refl _ _).drew
            have qHST := HST.out.below hb0
            have qHO := HO.out.below hb0
            have qGG := GG.out.below hb0 GG.out.lt
            have qBW := BW.out.trans (hb0.mono BW.out.size)
            clear hb0 HST HO GG BW
            generalize wr.drew = Wus at hS qHST qHO qGG qBW ⊢
            have HST := Lib.hid qHST
            have HO := Lib.hid qHO
            have GG := Lib.hid qGG
            have BW := Lib.hid qBW
            clear qHST qHO qGG qBW
            refine' wpAnyH_take (i := 0) ?h1x0u ?hsx0u ?hfx0u ?hrx0u ?hQx0u (Or.inl ⟨?hwx0u, ?hyx0u⟩) hS ?restx0u
            case h1x0u => (simp only [List.getElem?_toArray, List.getElem?_cons_zero]; rfl)
            case hsx0u => kernel_rfl
            case hfx0u => kernel_rfl
            case hrx0u => kernel_rfl
            case hQx0u => exact fun _ _ _ h => h
            case hwx0u => rfl
            case hyx0u =>
              intro W hW
              go_simp
              try with_reducible rfl
            simp only [Act.put, List.setIfInBounds_toArray, List.set_cons_succ, List.set_cons_zero]
            refine' wpAnyH_take (i := 1) ?h1x1u ?hsx1u ?hfx1u ?hrx1u ?hQx1u (Or.inl ⟨?hwx1u, ?hyx1u⟩) hS ?restx1u
            case h1x1u => (simp only [List.getElem?_toArray, List.getElem?_cons_succ, List.getElem?_cons_zero]; rfl)
            case hsx1u => kernel_rfl
            case hfx1u => kernel_rfl
            case hrx1u => kernel_rfl
            case hQx1u => exact fun _ _ _ h => h
            case hwx1u => rfl
            case hyx1u =>
              intro W hW
              go_simp
              try with_reducible rfl
            simp only [Act.put, List.setIfInBounds_toArray, List.set_cons_succ, List.set_cons_zero]
            refine' wpAnyH_take (i := 2) ?h1x2u ?hsx2u ?hfx2u ?hrx2u ?hQx2u (Or.inl ⟨?hwx2u, ?hyx2u⟩) hS ?restx2u
            case h1x2u => (simp only [List.getElem?_toArray, List.getElem?_cons_succ, List.getElem?_cons_zero]; rfl)
            case hsx2u => kernel_rfl
            case hfx2u => kernel_rfl
            case hrx2u => kernel_rfl
            case hQx2u => exact fun _ _ _ h => h
            case hwx2u => rfl
            case hyx2u =>
              intro W hW
              go_simp
              try with_reducible rfl
            simp only [Act.put, List.setIfInBounds_toArray, List.set_cons_succ, List.set_cons_zero]
            refine' wpAnyH_take (i := 6) ?h1x6u ?hsx6u ?hfx6u ?hrx6u ?hQx6u (Or.inl ⟨?hwx6u, ?hyx6u⟩) hS ?restx6u
            case h1x6u => (simp only [List.getElem?_toArray, List.getElem?_cons_succ, List.getElem?_cons_zero]; rfl)
            case hsx6u => kernel_rfl
            case hfx6u => kernel_rfl
            case hrx6u => kernel_rfl
            case hQx6u => exact fun _ _ _ h => h
            case hwx6u => rfl
            case hyx6u =>
              intro W hW
              go_simp
              try with_reducible rfl
            simp only [Act.put, List.setIfInBounds_toArray, List.set_cons_succ, List.set_cons_zero]
            refine' wpAnyH_take (i := 11) ?h1x11u ?hsx11u ?hfx11u ?hrx11u ?hQx11u (Or.inl ⟨?hwx11u, ?hyx11u⟩) hS ?restx11u
            case h1x11u => (simp only [List.getElem?_toArray, List.getElem?_cons_succ, List.getElem?_cons_zero]; rfl)
            case hsx11u => kernel_rfl
            case hfx11u => kernel_rfl
            case hrx11u => kernel_rfl
            case hQx11u => exact fun _ _ _ h => h
            case hwx11u => rfl
            case hyx11u =>
              intro W hW
              go_simp
              try with_reducible rfl
            simp only [Act.put, List.setIfInBounds_toArray, List.set_cons_succ, List.set_cons_zero]
            refine' wpAnyH_take (i := 3) ?h1x3u ?hsx3u ?hfx3u ?hrx3u ?hQx3u (Or.inl ⟨?hwx3u, ?hyx3u⟩) hS ?restx3u
            case h1x3u => (simp only [List.getElem?_toArray, List.getElem?_cons_succ, List.getElem?_cons_zero]; rfl)
            case hsx3u => kernel_rfl
            case hfx3u => kernel_rfl
            case hrx3u => kernel_rfl
            case hQx3u => exact fun _ _ _ h => h
            case hwx3u => rfl
            case hyx3u =>
              intro W hW
              go_simp
              try with_reducible rfl
            simp only [Act.put, List.setIfInBounds_toArray, List.set_cons_succ, List.set_cons_zero]
            refine' wpAnyH_take (i := 7) ?h1x7u ?hsx7u ?hfx7u ?hrx7u ?hQx7u (Or.inl ⟨?hwx7u, ?hyx7u⟩) hS ?restx7u
            case h1x7u => (simp only [List.getElem?_toArray, List.getElem?_cons_succ, List.getElem?_cons_zero]; rfl)
            case hsx7u => kernel_rfl
            case hfx7u => kernel_rfl
            case hrx7u => kernel_rfl
            case hQx7u => exact fun _ _ _ h => h
            case hwx7u => rfl
            case hyx7u =>
              intro W hW
              go_simp
              try with_reducible rfl
            simp only [Act.put, List.setIfInBounds_toArray, List.set_cons_succ, List.set_cons_zero]
            refine' wpAnyH_take (i := 4) ?h1x4u ?hsx4u ?hfx4u ?hrx4u ?hQx4u (Or.inl ⟨?hwx4u, ?hyx4u⟩) hS ?restx4u
            case h1x4u => (simp only [List.getElem?_toArray, List.getElem?_cons_succ, List.getElem?_cons_zero]; rfl)
            case hsx4u => kernel_rfl
            case hfx4u => kernel_rfl
            case hrx4u => kernel_rfl
            case hQx4u => exact fun _ _ _ h => h
            case hwx4u => rfl
            case hyx4u =>
              intro W hW
              have hcy := HOC.out W hW.1
              go_simp
              try with_reducible rfl
            simp only [Act.put, List.setIfInBounds_toArray, List.set_cons_succ, List.set_cons_zero]
            refine' wpAnyH_take (i := 5) ?h1x5u ?hsx5u ?hfx5u ?hrx5u ?hQx5u (Or.inl ⟨?hwx5u, ?hyx5u⟩) hS ?restx5u
            case h1x5u => (simp only [List.getElem?_toArray, List.getElem?_cons_succ, List.getElem?_cons_zero]; rfl)
            case hsx5u => kernel_rfl
            case hfx5u => kernel_rfl
            case hrx5u => kernel_rfl
            case hQx5u => exact fun _ _ _ h => h
            case hwx5u => rfl
            case hyx5u =>
              intro W hW
              go_simp
              try with_reducible rfl
            simp only [Act.put, List.setIfInBounds_toArray, List.set_cons_succ, List.set_cons_zero]
            refine' wpAnyH_take (i := 8) ?h1x8u ?hsx8u ?hfx8u ?hrx8u ?hQx8u (Or.inl ⟨?hwx8u, ?hyx8u⟩) hS ?restx8u
            case h1x8u => (simp only [List.getElem?_toArray, List.getElem?_cons_succ, List.getElem?_cons_zero]; rfl)
            case hsx8u => kernel_rfl
            case hfx8u => kernel_rfl
            case hrx8u => kernel_rfl
            case hQx8u => exact fun _ _ _ h => h
            case hwx8u => rfl
            case hyx8u =>
              intro W hW
              go_simp
              rw [if_neg N20.out, WR8.out]
              try with_reducible rfl
            simp only [Act.put, List.setIfInBounds_toArray, List.set_cons_succ, List.set_cons_zero]
            refine' wpAnyH_take (i := 9) ?h1x9u ?hsx9u ?hfx9u ?hrx9u ?hQx9u (Or.inl ⟨?hwx9u, ?hyx9u⟩) hS ?restx9u
            case h1x9u => (simp only [List.getElem?_toArray, List.getElem?_cons_succ, List.getElem?_cons_zero]; rfl)
            case hsx9u => kernel_rfl
            case hfx9u => kernel_rfl
            case hrx9u => kernel_rfl
            case hQx9u => exact fun _ _ _ h => h
            case hwx9u => rfl
            case hyx9u =>
              intro W hW
              go_simp
              try with_reducible rfl
            simp only [Act.put, List.setIfInBounds_toArray, List.set_cons_succ, List.set_cons_zero]
            refine' wpAnyH_take (i := 10) ?h1x10u ?hsx10u ?hfx10u ?hrx10u ?hQx10u (Or.inl ⟨?hwx10u, ?hyx10u⟩) hS ?restx10u
            case h1x10u => (simp only [List.getElem?_toArray, List.getElem?_cons_succ, List.getElem?_cons_zero]; rfl)
            case hsx10u => kernel_rfl
            case hfx10u => kernel_rfl
            case hrx10u => kernel_rfl
            case hQx10u => exact fun _ _ _ h => h
            case hwx10u => rfl
            case hyx10u =>
              intro W hW
              have hcs : W.cell? ⟨gq, r, none⟩ = some (.pointer (some ⟨sr, 0, none⟩)) := by rw [cell_of_row _ _ _ _ _ _ hW.2]; exact hcr
              go_simp
              try with_reducible rfl
            simp only [Act.put, List.setIfInBounds_toArray, List.set_cons_succ, List.set_cons_zero]
            refine wpAnyH_ready (rs := [12]) (by kernel_rfl) (by simp) ?_
            refine' (AllReadyH.cons ?hoc12u (fun K hK => ?stc12u) AllReadyH.nil)
            case hoc12u => (simp only [List.getElem?_toArray, List.getElem?_cons_succ, List.getElem?_cons_zero]; rfl)
            go_simp
            refine (BL.out Wus bo _ _ _ (HY.out.below (by rw [← HB.out]; exact hS.1)) HME.out HM512.out).mono ?_
            rintro e Wux12 ⟨q5, rfl, hq, hr, hb⟩
            have HST := Lib.hid (HST.out.below hb)
            have HO := Lib.hid (HO.out.below hb)
            have GG := Lib.hid (GG.out.below hb GG.out.lt)
            have BW := Lib.hid (BW.out.trans (hb.mono BW.out.size))
            have RQ := Lib.hid hr
            clear hr hq
            go_wp2_with fail
            refine hK.out _ _ (⟨hS.1.trans (hb.mono (by rw [HB.out]; exact hS.1.size)), (hb.block _ (blk_lt hS.2)).trans hS.2⟩) (fun hHeld => ?_)
            clear hK K
            try simp only [Act.put, List.setIfInBounds_toArray, List.set_cons_succ, List.set_cons_zero]
            clear hS
            have hS := hHeld
            clear hHeld
            clear hb
            refine wpAnyH_ready (rs := [13]) (by kernel_rfl) (by simp) ?_
            refine' (AllReadyH.cons ?hoc13ux12 (fun K hK => ?stc13ux12) AllReadyH.nil)
            case hoc13ux12 => (simp only [List.getElem?_toArray, List.getElem?_cons_succ, List.getElem?_cons_zero]; rfl)
            go_simp
            refine (SLJ.out Wux12 q5 HST.out GG.out RQ.out).mono ?_
            rintro e Wux12x13 ⟨q6, rfl, hst6, hel6⟩
            have HST6 := Lib.hid hst6
            have HO6 := Lib.hid (HO.out.grown (else_grown hel6) (.inr HNO.out))
            have hb6 : Below B w Wux12x13 := hel6.2.1 B w HBG.out (by rw [HB.out]; exact hS.1.size) hS.1
            have SZ6 := Lib.hid (Nat.le_trans SZ.out (Nat.le_trans BW.out.size hel6.2.2))
            go_wp2_with fail
            refine hK.out _ _ (⟨hb6, (hel6.1 gq (blk_lt hS.2) HGN.out).trans hS.2⟩) (fun hHeld => ?_)
            clear hK K
            try simp only [Act.put, List.setIfInBounds_toArray, List.set_cons_succ, List.set_cons_zero]
            clear hS
            have hS := hHeld
            clear hHeld
            clear hst6 hel6 hb6 SLJ
            refine' wpAnyH_take (i := 14) ?h1x14ux12x13 ?hsx14ux12x13 ?hfx14ux12x13 ?hrx14ux12x13 ?hQx14ux12x13 (Or.inl ⟨?hwx14ux12x13, ?hyx14ux12x13⟩) hS ?restx14ux12x13
            case h1x14ux12x13 => (simp only [List.getElem?_toArray, List.getElem?_cons_succ, List.getElem?_cons_zero]; rfl)
            case hsx14ux12x13 => kernel_rfl
            case hfx14ux12x13 => kernel_rfl
            case hrx14ux12x13 => kernel_rfl
            case hQx14ux12x13 => exact fun _ _ _ h => h
            case hwx14ux12x13 => rfl
            case hyx14ux12x13 =>
              intro W hW
              go_simp
              try with_reducible rfl
            simp only [Act.put, List.setIfInBounds_toArray, List.set_cons_succ, List.set_cons_zero]
            refine' wpAnyH_take (i := 15) ?h1x15ux12x13 ?hsx15ux12x13 ?hfx15ux12x13 ?hrx15ux12x13 ?hQx15ux12x13 (Or.inl ⟨?hwx15ux12x13, ?hyx15ux12x13⟩) hS ?restx15ux12x13
            case h1x15ux12x13 => (simp only [List.getElem?_toArray, List.getElem?_cons_succ, List.getElem?_cons_zero]; rfl)
            case hsx15ux12x13 => kernel_rfl
            case hfx15ux12x13 => kernel_rfl
            case hrx15ux12x13 => kernel_rfl
            case hQx15ux12x13 => exact fun _ _ _ h => h
            case hwx15ux12x13 => rfl
            case hyx15ux12x13 =>
              intro W hW
              go_simp
              try with_reducible rfl
            simp only [Act.put, List.setIfInBounds_toArray, List.set_cons_succ, List.set_cons_zero]
            refine' wpAnyH_take (i := 16) ?h1x16ux12x13 ?hsx16ux12x13 ?hfx16ux12x13 ?hrx16ux12x13 ?hQx16ux12x13 (Or.inl ⟨?hwx16ux12x13, ?hyx16ux12x13⟩) hS ?restx16ux12x13
            case h1x16ux12x13 => (simp only [List.getElem?_toArray, List.getElem?_cons_succ, List.getElem?_cons_zero]; rfl)
            case hsx16ux12x13 => kernel_rfl
            case hfx16ux12x13 => kernel_rfl
            case hrx16ux12x13 => kernel_rfl
            case hQx16ux12x13 => exact fun _ _ _ h => h
            case hwx16ux12x13 => rfl
            case hyx16ux12x13 =>
              intro W hW
              go_simp
              try with_reducible rfl
            simp only [Act.put, List.setIfInBounds_toArray, List.set_cons_succ, List.set_cons_zero]
            refine' wpAnyH_take (i := 17) ?h1x17ux12x13 ?hsx17ux12x13 ?hfx17ux12x13 ?hrx17ux12x13 ?hQx17ux12x13 (Or.inl ⟨?hwx17ux12x13, ?hyx17ux12x13⟩) hS ?restx17ux12x13
            case h1x17ux12x13 => (simp only [List.getElem?_toArray, List.getElem?_cons_succ, List.getElem?_cons_zero]; rfl)
            case hsx17ux12x13 => kernel_rfl
            case hfx17ux12x13 => kernel_rfl
            case hrx17ux12x13 => kernel_rfl
            case hQx17ux12x13 => exact fun _ _ _ h => h
            case hwx17ux12x13 => rfl
            case hyx17ux12x13 =>
              intro W hW
              go_simp
              try with_reducible rfl
            simp only [Act.put, List.setIfInBounds_toArray, List.set_cons_succ, List.set_cons_zero]
            refine' wpAnyH_take (i := 18) ?h1x18ux12x13 ?hsx18ux12x13 ?hfx18ux12x13 ?hrx18ux12x13 ?hQx18ux12x13 (Or.inl ⟨?hwx18ux12x13, ?hyx18ux12x13⟩) hS ?restx18ux12x13
            case h1x18ux12x13 => (simp only [List.getElem?_toArray, List.getElem?_cons_succ, List.getElem?_cons_zero]; rfl)
            case hsx18ux12x13 => kernel_rfl
            case hfx18ux12x13 => kernel_rfl
            case hrx18ux12x13 => kernel_rfl
            case hQx18ux12x13 => exact fun _ _ _ h => h
            case hwx18ux12x13 => rfl
            case hyx18ux12x13 =>
              intro W hW
              go_simp
              try with_reducible rfl
            simp only [Act.put, List.setIfInBounds_toArray, List.set_cons_succ, List.set_cons_zero]
            refine' wpAnyH_take (i := 19) ?h1x19ux12x13 ?hsx19ux12x13 ?hfx19ux12x13 ?hrx19ux12x13 ?hQx19ux12x13 (Or.inl ⟨?hwx19ux12x13, ?hyx19ux12x13⟩) hS ?restx19ux12x13
            case h1x19ux12x13 => (simp only [List.getElem?_toArray, List.getElem?_cons_succ, List.getElem?_cons_zero]; rfl)
            case hsx19ux12x13 => kernel_rfl
            case hfx19ux12x13 => kernel_rfl
            case hrx19ux12x13 => kernel_rfl
            case hQx19ux12x13 => exact fun _ _ _ h => h
            case hwx19ux12x13 => rfl
            case hyx19ux12x13 =>
              intro W hW
              go_simp
              try with_reducible rfl
            simp only [Act.put, List.setIfInBounds_toArray, List.set_cons_succ, List.set_cons_zero]
            refine' wpAnyH_take (i := 20) ?h1x20ux12x13 ?hsx20ux12x13 ?hfx20ux12x13 ?hrx20ux12x13 ?hQx20ux12x13 (Or.inl ⟨?hwx20ux12x13, ?hyx20ux12x13⟩) hS ?restx20ux12x13
            case h1x20ux12x13 => (simp only [List.getElem?_toArray, List.getElem?_cons_succ, List.getElem?_cons_zero]; rfl)
            case hsx20ux12x13 => kernel_rfl
            case hfx20ux12x13 => kernel_rfl
            case hrx20ux12x13 => kernel_rfl
            case hQx20ux12x13 => exact fun _ _ _ h => h
            case hwx20ux12x13 => rfl
            case hyx20ux12x13 =>
              intro W hW
              go_simp
              try with_reducible rfl
            simp only [Act.put, List.setIfInBounds_toArray, List.set_cons_succ, List.set_cons_zero]
            refine wpAnyH_done (by kernel_rfl) ?_ _
            have BE6 := Lib.hid hS.1
            have ROW6 := Lib.hid hS.2
            clear hS hcr
            clear t1 t2 t3 t4 t5 t6 t7 t9
            go_wp2_with fail
            obtain ⟨wo, rfl⟩ : ∃ wo : World, wo = Wux12x13 := ⟨_, rfl⟩
            have LC : Hid (0 < j → ∃ g, q2 = some ⟨g, 0, none⟩ ∧ ∀ W : World, Below wo.heap.size wo W → ∀ k, k < j → W.cell? ⟨g, k, none⟩ = some (.int .u64 (nth zs k))) := fun h0 => by
              obtain ⟨g, cp, hv, _, _, _, hc⟩ := HO6.out.cells (by rw [HZL.out]; exact h0)
              simp only [Value.slice.injEq] at hv
              refine ⟨g, hv.1, fun W hW k hk => ?_⟩
              have h1 := hc k (by rw [HZL.out]; exact hk)
              rw [hW.cell (p := ⟨g, k, none⟩) (World.block_lt_of_cell? _ _ h1)]
              exact h1
            have t15 : (j : Int) ≤ 11 := by have := HJM.out; have := HM12.out; omega
            go_loopw [15] (fun vk wr => ∃ k : Nat, k ≤ j ∧ vk = .int .i64 (k : Int) ∧ Below wo.heap.size wo wr) (fun vk _ => 20 - (intOf vk).toNat)
            case atStart => exact ⟨0, Nat.zero_le _, rfl, Below.refl _ _⟩
            case round =>
              obtain ⟨k, hk, rfl, hb⟩ := hrel
              have HB7 := Lib.hid hb
              by_cases hkj : k < j
              · have t13 : (k : Int) < (j : Int) := by omega
                have t14 : (0 : Int) ≤ (k : Int) := by omega
                obtain ⟨g7, hq7, hc7⟩ := LC.out (by omega)
                subst hq7
                have hck := hc7 wr hb k hkj
                have hz : nth zs k ∈ zs := by
                  have h : k < zs.length := by rw [HZL.out]; exact hkj
                  have h2 : nth zs k = zs[k] := by simp [nth, List.getD, h]
                  rw [h2]
                  exact List.getElem_mem h
                have hne : (nth zs k == ((sv : Nat) : Int)) = false := by simpa using APT.out _ hz
                have HKJ := Lib.hid hkj
                generalize nth zs k = zk at hck hne
                clear hc7 hz hk hb hkj
                go_wp2_with fail
                go_roundw
                case rel => exact ⟨k + 1, HKJ.out, by go_num, HB7.out⟩
                case measure => have := HKJ.out; have := HJM.out; have := HM12.out; simp [intOf]; omega
              · have t13 : ¬ (k : Int) < (j : Int) := by omega
                have HO7 := Lib.hid (HO6.out.below hb)
                have HST7 := Lib.hid (HST6.out.below hb)
                have ROW7 := Lib.hid ((hb.block _ (blk_lt ROW6.out)).trans ROW6.out)
                have BE7 := Lib.hid (BE6.out.trans (hb.mono (by rw [HB.out]; exact BE6.out.size)))
                have SZ7 := Lib.hid (Nat.le_trans SZ6.out hb.size)
                obtain ⟨q8, c8, w8, hr8, ho8, hb8, _⟩ := OwnK.push Tryd.underlying46 info22 (Nat.le_refl 8) HO7.out (by rw [HZL.out]; have := HJM.out; have := HM12.out; omega) SZ7.out ((sv : Nat) : Int)
                rw [HZL.out] at hr8 ho8
                have HR := Lib.hid hr8
                have HO8 := Lib.hid ho8
                have HST8 := Lib.hid (ST.lower HST7.out hb8 HGL.out HSL.out)
                have ROW8 := Lib.hid ((hb8.block _ (HQL.out HI0.out)).trans ROW7.out)
                have BE8 := Lib.hid (BE7.out.trans (hb8.mono HBB.out))
                have SZ8 := Lib.hid (Nat.le_trans SZ7.out hb8.size)
                clear hk hb hkj hr8 ho8 hb8
                go_wp2_with (at_builtin; refine wpList_appK 46 rfl _ _ rfl rfl rfl rfl HR.out ?_)
                go_roundw
                case rel => exact ⟨j + 1, q8, c8, zs ++ [((sv : Nat) : Int)], C2, HJM.out, by go_num, rfl, by simp [HZL.out], HO8.out, PST.out, CLE.out, HST8.out, fun _ => ROW8.out, BE8.out, SZ8.out⟩
                case measure => have := HJM.out; have := HM12.out; simp [intOf]; omega
          · have t1 : (j : Int) < (M : Int) := by omega
            have t2 : ¬ (0 : Int) < (N2 : Int) := by have := HN2.out; omega
            clear hj hzl ho hzs hC hst hrow hbel hsz hjm hi0
            go_wp2_with fail
            refine (AL.out _ GG.out).mono ?_
            rintro xz wz ⟨rfl, hb⟩
            have BZ := Lib.hid (BE.out.trans (hb.mono SZ0.out))
            clear hb
            go_wp2_with fail
            go_ret
            exact ⟨rfl, BZ.out⟩
        · have t1 : ¬ (j : Int) < (M : Int) := by omega
          clear hj hzl ho hzs hC hst hrow hbel hsz hjm
          go_wp2_with fail
          refine (AL.out _ GG.out).mono ?_
          rintro xz wz ⟨rfl, hb⟩
          have BZ := Lib.hid (BE.out.trans (hb.mono SZ0.out))
          clear hb
          go_wp2_with fail
          go_ret
          exact ⟨rfl, BZ.out⟩
theorem all (es bo : List Nat) (v u : Value) (w : World) (hx : SeesU w v es) (hy : ae.Sees w u bo) (hG : sh.Glob w) :
    Calls Tryd.prog 10 #[v, u] w fun e w' => e = .returned (.bool true) ∧ Below w.heap.size w w' := by
  obtain ⟨x, cx, rfl⟩ := hx.form
  obtain ⟨y, cy, rfl, _⟩ := hy.form
  by_cases h : es.length ≤ 6 ∧ bo.length ≤ 12
  · exact walk es bo x y _ _ cx cy rfl rfl h.1 h.2 w hx hy hG
  · exact walkBig x y _ _ cx cy (by omega) w hG

set_option maxRecDepth 100000 in
theorem lifted (os : Os) (started : os.Started) (H : Type) (enc : TypeId × Value → H) :
    ReturnsInHanded {} Tryd.checked os 10 .any (fun w args => (Rows.sealOnceSpec.pre enc Tryd.prog Tryd.f10 [] false w args ∧ laidMetH Tryd.prog sh.laid2 w) ∧ sizedMet enc Tryd.prog Tryd.f10 (OpenSpec.ofChange Rows.sealOnceSpec) false w args)
      (Rows.sealOnceSpec.post enc Tryd.prog Tryd.f10 false true false false) := by
  refine returnsInHanded_of_change_and (C := Tryd.checked) (X := fun w _ => laidMetH Tryd.prog sh.laid2 w) (fun _ _ _ hh h => h.of_heap hh) sh.own started (by kernel_rfl) Tryd.func10
    (ChangeSpec.witness_shaped (enc := enc) (C := Tryd.checked) (os := os) (X := fun w _ => laidMetH Tryd.prog sh.laid2 w) false (World.doorLaid Tryd.prog 400 os) #[.slice none 0 0, .slice none 0 0] 8 rfl (World.shaped_of_RefB (by kernel_rfl) (by kernel_rfl)) (by kernel_rfl) (by kernel_rfl) (by kernel_rfl) (sh.door_met os _)) ?_
  intro W base args ds gs before hval0 hW _ _ hL _
  have hval : ∀ (j : Nat) t v, Tryd.f10.params[j]? = some t → args[j]? = some v → Value.okWide Tryd.prog W .any base t v := hval0
  have hW' := hW
  obtain ⟨p, q, hA0, hV, rfl, hfz, hnd⟩ := hW
  have hA : DataW.TrodAll enc Tryd.prog W 0 (fun _ => true) true Tryd.f10.params.toList args.toList ds p := hA0
  rw [Tryd.params10] at hA hval
  obtain ⟨v0, vs0, d0, ds0, p0, q0, hargs, rfl, rfl, h0, r0⟩ := trodAll_cons hA
  obtain ⟨v1, vs1, d1, ds1, p1, q1, rfl, rfl, rfl, h1, r1⟩ := trodAll_cons r0
  obtain ⟨rfl, rfl, rfl⟩ := trodAll_nil r1
  obtain rfl : args = #[v0, v1] := by cases args; simp_all
  obtain ⟨rfl, rfl⟩ := trodVars_none hV
  obtain ⟨x0, s0⟩ := open_u64s (hval 0 46 v0 rfl rfl) h0
  obtain ⟨x1, s1⟩ := ae.open_sees (hval 1 49 v1 rfl rfl) h1
  refine (all x0 x1 v0 v1 W s0.1 s1 (sh.of_laid hL)).mono fun e W' ⟨he, hb⟩ => ?_
  subst he
  exact ⟨_, rfl, sh.law_post hW' rfl rfl rfl (by kernel_rfl) hb⟩
/-- The row's statement. -/
theorem row_holds : Rows.SealOnceSaid :=
  OpenClaim.holds_of_wide 10 Tryd.f10 rfl rfl rfl rfl rfl rfl rfl ⟨rfl, rfl, rfl, rfl, rfl⟩ rfl rfl rfl rfl rfl (by kernel_rfl) Tryd.func10 (by kernel_rfl)
    (of_decide_eq_true (by kernel_rfl)) (by unfold Func.isWrapper; first | (rw [if_pos (by decide +kernel)]; kernel_rfl) | (rw [if_neg (by decide +kernel)]; exact ⟨rfl, rfl⟩))
    (fun os started H enc _ => lifted os started H enc)
/-- The tied card. -/
theorem proved : Rows.SealOnceCardSaid :=
  Claim7.holds_tied_plain_at .later [] [.data, .data] true (true, "0457159e5fbc900da0b901a90696513c7756748e29878623afbd297629de2456") false
    row_holds (fun _ h => by cases h) (by kernel_rfl) (fun _ h => by cases h) Go.Proofs.YtpkeofioobmmoaaDoor.sealOnce_row_tie rfl ⟨rfl, rfl⟩ (by kernel_rfl) rfl
    (fun f fn hf hfn => by
      obtain rfl : f = 10 := Option.some.inj ((show Tryd.prog.funcNamed "casemate/casematelaw22.SealOnce" = some 10 by kernel_rfl).symm.trans hf) |>.symm
      obtain rfl : fn = Tryd.f10 := (Option.some.inj (Tryd.func10.symm.trans hfn)).symm
      exact ⟨by kernel_rfl, fun j t ht => by
        rw [Tryd.params10] at ht
        have hm : t ∈ [46, 49] := by simpa using Array.mem_of_getElem? ht
        have hall : ([46, 49].all fun u => !Tryd.prog.wantsStandIn u) = true := by kernel_rfl
        exact (show Tryd.prog.wantsStandIn t = false by simpa using List.all_eq_true.1 hall t hm)⟩)
    (by kernel_rfl)
#print axioms proved
end Go.Proofs.YtpkeofioobmmoaaDoor.sealOnce
