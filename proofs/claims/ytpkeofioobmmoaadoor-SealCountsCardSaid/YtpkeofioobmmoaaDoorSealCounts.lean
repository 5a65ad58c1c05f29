/-
  For all master keys, numbers, epochs and lists of texts the law SealCounts of package casematelaw22 returns true, and they read afterwards as before: a sealer seals each block with the next stamp of its counter, or says what is wrong. Condition: none.
-/
import Derived.Test.YtpkeofioobmmoaaDoorK2
import Derived.Test.YtpkeofioobmmoaaDoorKR
import Derived.Test.YtpkeofioobmmoaaDoorAeSE
import Derived.Test.YtpkeofioobmmoaaDoorShLaid
import Derived.Deep.DeepCutAuto
namespace Go.Proofs.YtpkeofioobmmoaaDoor.sealCounts
open Go.ChangeShapes Go.WideShapes Go.ChangeAt Go.RowKit Go.Proofs.YtpkeofioobmmoaaDoor.ae
theorem add_zero (a : Addr) : a.add 0 = a := by
  unfold Addr.add
  split <;> simp_all
theorem sl_pre (x : Option Addr) (L cap r : Nat) (h : r ≤ cap) (W : World) : (Instr.slice 49 (.slice x L cap) none (some (.int .i64 r)) none).run Tryd.prog W = .ok (.slice x r cap) W := by
  rw [run_slice_h W 49 x L cap (by kernel_rfl) .i64 r (by omega) (by omega), size5']
  cases x <;> simp [Result.andThen, sliced, add_zero]
theorem sees_take {w : World} {x : Option Addr} {L cap : Nat} {b : List Nat} (h : ae.Sees w (.slice x L cap) b) (r : Nat) (hr : r ≤ b.length) : ae.Sees w (.slice x r cap) (b.take r) ∧ r ≤ cap := by
  obtain ⟨h1, ⟨hv, rfl⟩ | ⟨a, c, hv, rfl, h2⟩ | ⟨bb, o, c, hv, h3, h4, h5, h6⟩⟩ := h
  · simp only [Value.slice.injEq] at hv
    obtain ⟨rfl, rfl, rfl⟩ := hv
    obtain rfl : r = 0 := by simpa using hr
    exact ⟨⟨h1, .inl ⟨rfl, rfl⟩⟩, Nat.le_refl _⟩
  · simp only [Value.slice.injEq] at hv
    obtain ⟨rfl, rfl, rfl⟩ := hv
    obtain rfl : r = 0 := by simpa using hr
    exact ⟨⟨h1, .inr (.inl ⟨a, cap, rfl, rfl, h2⟩)⟩, Nat.zero_le _⟩
  · simp only [Value.slice.injEq] at hv
    obtain ⟨rfl, rfl, rfl⟩ := hv
    refine ⟨⟨h1.take r, ?_⟩, by omega⟩
    rcases Nat.eq_zero_or_pos r with rfl | h0
    · exact .inr (.inl ⟨_, cap, rfl, by simp, h5⟩)
    · have hl : (b.take r).length = r := by rw [List.length_take]; omega
      refine .inr (.inr ⟨bb, o, cap, by rw [hl], fun e => by rw [e] at hl; simp at hl; omega, by omega, h5, fun i hi => ?_⟩)
      rw [hl] at hi
      rw [h6 i (by omega)]
      simp [at_, List.getD, List.getElem?_take_of_lt hi]
theorem sees_of_sh {w : World} {v : Value} {xs : List Int} (h : sh.Sees w v xs) : ae.Sees w v (toN xs) := by
  have hb := h.1
  refine sees_ae (toN_bts hb rfl).2 ?_
  rw [zl_toN hb]
  exact h
/-- The texts that came in. -/
def TX (w : World) (v : Value) (xs : List (List Nat)) : Prop :=
  (∃ x cap, v = .slice x 0 cap ∧ xs = []) ∨ ∃ b o cap, v = .slice (some ⟨b, o, none⟩) xs.length cap ∧ xs ≠ [] ∧ xs.length ≤ maxLen ∧ ∀ i, i < xs.length → ∃ x L c, w.cell? ⟨b, o + i, none⟩ = some (.slice x L c) ∧ ae.Sees w (.slice x L c) (xs.getD i []) ∧ L = (xs.getD i []).length
theorem tx_of {w : World} {v : Value} {xss : List (List Int)} (h : sh.SeesM w v xss) : TX w v (xss.map toN) := by
  rcases h with ⟨x, cap, h1, rfl⟩ | ⟨b, o, cap, h1, h2, h3, h4, h5⟩
  · exact .inl ⟨x, cap, h1, rfl⟩
  · refine .inr ⟨b, o, cap, by rw [List.length_map]; exact h1, by simpa using h2, by rw [List.length_map]; exact h3, fun i hi => ?_⟩
    rw [List.length_map] at hi
    obtain ⟨u, hu, hs⟩ := h5 i hi
    have hs2 := sees_of_sh hs
    have hg : (xss.map toN).getD i [] = toN (xss.getD i []) := by simp [List.getD, hi]
    obtain ⟨x, c, rfl, _⟩ := hs2.form
    exact ⟨x, _, c, hu, by rw [hg]; exact hs2, by rw [hg]⟩
theorem TX.form {w : World} {v : Value} {xs : List (List Nat)} (h : TX w v xs) : ∃ x cap, v = .slice x xs.length cap := by
  rcases h with ⟨x, cap, rfl, rfl⟩ | ⟨b, o, cap, rfl, _⟩
  · exact ⟨_, _, rfl⟩
  · exact ⟨_, _, rfl⟩
theorem TX.at {w : World} {x : Option Addr} {n cap : Nat} {xs : List (List Nat)} (h : TX w (.slice x n cap) xs) (i : Nat) (hi : i < xs.length) : ∃ b o y L c, x = some ⟨b, o, none⟩ ∧ w.cell? ⟨b, o + i, none⟩ = some (.slice y L c) ∧ ae.Sees w (.slice y L c) (xs.getD i []) ∧ L = (xs.getD i []).length := by
  rcases h with ⟨x', cap', _, rfl⟩ | ⟨b, o, cap', hv, _, _, h5⟩
  · simp at hi
  · simp only [Value.slice.injEq] at hv
    obtain ⟨y, L, c, h1, h2, h3⟩ := h5 i hi
    exact ⟨b, o, y, L, c, hv.1, h1, h2, h3⟩
set_option maxRecDepth 100000 in
set_option maxHeartbeats 1000000 in
theorem walkNo (m : List Nat) (n e : Nat) (x : Option Addr) (L cap : Nat) (h : 16777215 < e ∨ 6 < L) (w : World) (hG : sh.Glob w) :
    Calls Tryd.prog 8 #[.agg (ncells m), .int .u64 n, .int .u64 e, .slice x L cap] w fun e w' => e = .returned (.bool true) ∧ Below w.heap.size w w' := by
  have HB : Hid (Below w.heap.size w (w.alloc (.cells (ncells m) 38))) := (Below.refl _ _).alloc (Nat.le_refl _) _
  have HG := Lib.hid (hG.below HB.out hG.lt)
  clear hG
  have CA : Hid (∃ (p : Option Addr) (E : Int), ((E == 0) = false ∧ (E != 0) = true ∨ (E == 0) = true ∧ (E != 0) = false ∧ (6 : Int) < L) ∧ ∀ W : World, Calls Tryd.prog 15 #[.int .u64 e] W fun x w' => (∃ p, x = .returned (.tuple #[.pointer p, .int .i64 E])) ∧ Below W.heap.size W w') := by
    by_cases h1 : 16777215 < e
    · exact ⟨none, 5, .inl ⟨rfl, rfl⟩, fun W => (countNo e h1 W).mono fun _ _ ⟨h1, h2⟩ => ⟨⟨_, h1⟩, by rw [← h2]; exact Below.refl _ _⟩⟩
    · exact ⟨none, 0, .inr ⟨rfl, rfl, by omega⟩, fun W => (countOK e (by omega) W).mono fun _ _ ⟨h1, _, h2⟩ => ⟨⟨_, h1⟩, h2⟩⟩
  clear h
  obtain ⟨_, E, ht, ca⟩ := CA.out
  have CC := Lib.hid ca
  clear ca CA
  rcases ht with ⟨t1, t2⟩ | ⟨t1, t2, t3⟩
  all_goals
    go_enter Tryd.func8, Tryd.ntmps8
    go_wp2_with fail
    refine (CC.out _).mono ?_
    rintro e w1 ⟨⟨p, rfl⟩, hb⟩
    have B1 := Lib.hid (HB.out.trans (hb.mono HB.out.size))
    have G1 := Lib.hid (HG.out.below hb HG.out.lt)
    clear hb
    go_wp2_with fail
    refine (alive22 _ G1.out).mono ?_
    rintro e w2 ⟨rfl, hb⟩
    have B2 := Lib.hid (B1.out.trans (hb.mono B1.out.size))
    clear hb
    go_wp2_with fail
    go_ret
    exact ⟨rfl, B2.out⟩
theorem sees_else {w w' : World} {x : Option Addr} {n c g : Nat} {b : List Nat} (h : ae.Sees w (.slice x n c) b) (hne : ∀ o, x ≠ some ⟨g, o, none⟩) (he : Elsewhere g w w') : ae.Sees w' (.slice x n c) b := by
  obtain ⟨h1, h2 | h2 | ⟨bb, o, c', hv, h3, h4, h5, h6⟩⟩ := h
  · exact ⟨h1, .inl h2⟩
  · exact ⟨h1, .inr (.inl h2)⟩
  · refine ⟨h1, .inr (.inr ⟨bb, o, c', hv, h3, h4, h5, fun i hi => ?_⟩)⟩
    simp only [Value.slice.injEq] at hv
    have hlt := World.block_lt_of_cell? w _ (h6 i hi)
    rw [World.cell?_of_block (a := ⟨bb, o + i, none⟩) (he.1 bb hlt (fun e => hne o (by rw [hv.1, e])))]
    exact h6 i hi
set_option maxRecDepth 100000 in
set_option maxHeartbeats 32000000 in
theorem walk (m : List Nat) (hm : ae.Bts 32 m) (n e : Nat) (hn : n ≤ 18446744073709551615) (he : e ≤ 16777215) (x : Option Addr) (L cap : Nat) (xs : List (List Nat)) (hL : L = xs.length) (hl : L ≤ 6) (w : World) (hs : TX w (.slice x L cap) xs) (hG : sh.Glob w) :
    Calls Tryd.prog 8 #[.agg (ncells m), .int .u64 n, .int .u64 e, .slice x L cap] w fun e w' => e = .returned (.bool true) ∧ Below w.heap.size w w' := by
  have t0 : ¬ (6 : Int) < L := by omega
  have AL : Hid (∀ W : World, sh.Glob W → Calls Tryd.prog 21 #[] W fun e w' => e = .returned (.bool true) ∧ Below W.heap.size W w') := fun W hg => alive22 W hg
  have CN : Hid (∀ W : World, Calls Tryd.prog 15 #[.int .u64 e] W fun x w' => x = .returned (.tuple #[.pointer (some ⟨W.heap.size, 0, none⟩), .int .i64 0]) ∧ CT w' W.heap.size e 0 ∧ Below W.heap.size W w') := fun W => countOK e he W
  have NS : Hid (∀ (W : World) (c : Option Addr), Calls Tryd.prog 25 #[.agg (ncells m), .int .u64 n, .pointer c] W fun e w' => ∃ g, e = .returned (.pointer (some ⟨g, 0, none⟩)) ∧ W.heap.size ≤ g ∧ SLat w' g m n c ∧ Below W.heap.size W w') := fun W c => newSealer m hm n c W
  have BL : Hid (∀ (W : World) (b : List Nat) (x : Option Addr) (L cap : Nat), ae.Sees W (.slice x L cap) b → L = b.length → L ≤ 512 → Calls Tryd.prog 26 #[.slice x L cap] W (BlkP W b)) := fun W b x L cap h h1 h2 => blockC b x L cap W h h1 h2
  have SS : Hid (∀ (W : World) (gs g c : Nat) (b : List Nat) (x : Option Addr) (cap : Nat), c ≤ 100 → SLat W gs m n (some ⟨g, 0, none⟩) → CT W g e c → ae.Sees W (.slice x 512 cap) b → (∀ o, x ≠ some ⟨g, o, none⟩) → 512 = b.length → sh.Glob W → 2 ≤ g → Calls Tryd.prog 27 #[.pointer (some ⟨gs, 0, none⟩), .slice x 512 cap] W (SealP W m n g e c b)) :=
    fun W gs g c b x cap h0 h1 h2 h3 h4 h5 h6 h7 => sealerSeal gs g e c n m b hm hn he (by omega) x cap W h1 h2 h3 h4 h5 h6 h7
  have NF : Hid (∀ (W : World) (gs : Nat) (c : Option Addr) (x : Option Addr) (L cap : Nat), L ≠ 512 → SLat W gs m n c → Calls Tryd.prog 27 #[.pointer (some ⟨gs, 0, none⟩), .slice x L cap] W fun e w' => e = .returned (.tuple #[.int .u64 0, .slice none 0 0, .int .i64 3]) ∧ W = w') := fun W gs c x L cap h1 h2 => sealNoForm gs x L cap h1 W (SL_at h2 hm.1).1
  have RT : Hid (∀ (W : World) (k sv : Nat) (b : List Nat) (x : Option Addr) (cap : Nat), sv ≤ 18446744073709551615 → W.heap[k]? = some (.cells (ncells m) 38 (0, 0)) → ae.Sees W (.slice x 512 cap) b → 512 = b.length → Calls Tryd.prog 23 #[.slice (some ⟨k, 0, none⟩) 32 32, .int .u64 n, .int .u64 sv, .slice x 512 cap, .bool false] W (TurnP W (sealN m n sv b))) :=
    fun W k sv b x cap h0 h1 h2 h3 => refTurn m b hm n sv hn h0 false _ 32 x cap W (sees32 h1 hm) h2 h3
  have SO : Hid (∀ (W : World) (gs sv : Nat) (c : Option Addr) (b : List Nat) (q : Nat), SLat W gs m n c → ae.Byt b → 512 = b.length → W.heap[q]? = some (.cells (ncells (sealN m n sv b)) 5 (0, 0)) → sh.Glob W → Calls Tryd.prog 28 #[.pointer (some ⟨gs, 0, none⟩), .int .u64 sv, .slice (some ⟨q, 0, none⟩) 512 512] W (SecP W 512 b)) := fun W gs sv c b q h1 h2 h3 h4 h5 => by
    have := sealerOpen gs n sv m _ c hm hn (some ⟨q, 0, none⟩) 512 W h1 (sees_row W q _ (sealN_byt hm n sv h2) (by rw [sealN_len]; decide) h4 512 (sealN_len _ _ _ _).symm) (sealN_len _ _ _ _).symm h5
    rw [open_seal hm n sv h3.symm h2] at this
    exact this
  have SR : Hid (∀ (W : World) (q sv : Nat) (b : List Nat), ae.Byt b → W.heap[q]? = some (.cells (ncells (sealN m n sv b)) 5 (0, 0)) → ae.Sees W (.slice (some ⟨q, 0, none⟩) 512 512) (sealN m n sv b)) := fun W q sv b h1 h2 => sees_row W q _ (sealN_byt hm n sv h1) (by rw [sealN_len]; decide) h2 512 (sealN_len _ _ _ _).symm
  have NC : Hid (∀ (W : World) (gs : Nat) (x : Option Addr) (cap : Nat), SLat W gs m n none → Calls Tryd.prog 27 #[.pointer (some ⟨gs, 0, none⟩), .slice x 512 cap] W fun e w' => e = .returned (.tuple #[.int .u64 0, .slice none 0 0, .int .i64 6]) ∧ W = w') := fun W gs x cap h => sealNoCounter gs n m hm x cap W h
  have LM := Lib.hid hm.1
  have G0 := Lib.hid (heap_alloc_new w (.cells (ncells m) 38))
  have HB : Hid (Below w.heap.size w (w.alloc (.cells (ncells m) 38))) := (Below.refl _ _).alloc (Nat.le_refl _) _
  have HG := Lib.hid hG
  have HE := Lib.hid he
  have HX := Lib.hid hs
  have HL := Lib.hid hL
  have HL6 : Hid (L ≤ 6) := hl
  have a38 := arr38
  clear hm hn he hs hG hL hl
  go_enter Tryd.func8, Tryd.ntmps8
  go_wp2_with fail
  refine (CN.out _).mono ?_
  rintro e w1 ⟨rfl, hct, hb⟩
  have C1 := Lib.hid hct
  have B1 := Lib.hid (HB.out.trans (hb.mono HB.out.size))
  have K1 := Lib.hid ((hb.block _ (blk_lt G0.out)).trans G0.out)
  have ZG : Hid ((w.alloc (.cells (ncells m) 38)).heap.size = w.heap.size + 1) := by show _ = _; simp
  clear hct hb HB CN
  obtain ⟨g, hg⟩ : ∃ g, g = (w.alloc (.cells (ncells m) 38)).heap.size := ⟨_, rfl⟩
  rw [← hg] at C1 ⊢
  have HGW : Hid (g = w.heap.size + 1) := hg.trans ZG.out
  clear hg ZG
  go_wp2_with (refine wpList_load_row rfl 38 (.tmp 4) rfl w.heap.size rfl 38 (ncells m) (0, 0) _ K1.out Tryd.underlying38 rfl (i23 LM.out) ?_)
  refine (NS.out _ _).mono ?_
  rintro e w2 ⟨gs, rfl, _, hsl, hb⟩
  have SL := Lib.hid hsl
  have C2 := Lib.hid (C1.out.below hb)
  have B2 := Lib.hid (B1.out.trans (hb.mono B1.out.size))
  have K2 := Lib.hid ((hb.block _ (blk_lt K1.out)).trans K1.out)
  clear hsl hb C1 B1 K1
  go_wp2_with fail
  clear t0
  go_loopw [12, 13, 14, 15, 16, 17, 18, 19, 20, 21, 22] (fun vc vi _ _ _ _ _ _ _ _ _ wr => ∃ i c : Nat, i ≤ L ∧ c ≤ i ∧ vc = .int .u64 (c : Int) ∧ vi = .int .i64 (i : Int) ∧ SLat wr gs m n (some ⟨g, 0, none⟩) ∧ CT wr g e c ∧ wr.heap[w.heap.size]? = some (.cells (ncells m) 38 (0, 0)) ∧ Below w.heap.size w wr) (fun _ vi _ _ _ _ _ _ _ _ _ _ => 10 - (intOf vi).toNat)
  case atStart => exact ⟨0, 0, by omega, by omega, rfl, rfl, SL.out, C2.out, K2.out, B2.out⟩
  case round =>
    clear SL C2 K2 B2
    obtain ⟨i, c, hi, hc, rfl, rfl, hsl, hct, hk, hbel⟩ := hrel
    have SL := Lib.hid hsl
    have C2 := Lib.hid hct
    have K2 := Lib.hid hk
    have B2 := Lib.hid hbel
    have GG := Lib.hid (HG.out.below hbel HG.out.lt)
    have HC := Lib.hid hc
    by_cases hlt : i < L
    · have t1 : (i : Int) < (L : Int) := by omega
      have t2 : (0 : Int) ≤ (i : Int) := by omega
      obtain ⟨bt, ot, y, Ly, cy, hx, hcell, hsee, hLy⟩ := HX.out.at i (by rw [← HL.out]; exact hlt)
      have hcell2 : wr.cell? ⟨bt, ot + i, none⟩ = some (.slice y Ly cy) := by rw [hbel.cell (p := ⟨bt, ot + i, none⟩) (World.block_lt_of_cell? w _ hcell)]; exact hcell
      subst hx
      have SY := Lib.hid (hsee.below (hbel.mono (Nat.le_refl _)))
      have SYw := Lib.hid hsee
      have HLY := Lib.hid hLy
      have HLT := Lib.hid hlt
      generalize xs.getD i [] = yb at SY SYw HLY
      clear hi hc hlt hsl hct hk hbel hcell hsee hLy
      by_cases hbig : 1000 < Ly
      · have t3 : (1000 : Int) < (Ly : Int) := by omega
        clear hbig
        go_wp2_with fail
        refine (AL.out _ GG.out).mono ?_
        rintro e w9 ⟨rfl, hb⟩
        have B9 := Lib.hid (B2.out.trans (hb.mono B2.out.size))
        clear hb
        go_wp2_with fail
        go_ret
        exact ⟨rfl, B9.out⟩
      · have t3 : ¬ (1000 : Int) < (Ly : Int) := by omega
        have HLY2 : Hid (Ly ≤ 1000) := by show _ ≤ _; omega
        clear hbig
        obtain ⟨r2, hr2⟩ : ∃ r2, r2 = i % 2 := ⟨_, rfl⟩
        have hm2 : (i : Int) % 2 = (r2 : Int) := by omega
        obtain ⟨dd, hdd⟩ : ∃ dd : Bool, ((r2 : Int) == 0) = dd := ⟨_, rfl⟩
        clear hr2
        go_upto_if 69 with fail
        clear hm2 hdd
        go_cut [14] (fun v14 wx => ∃ (xb : Option Addr) (Lb capb : Nat) (bb : List Nat), v14 = .slice xb Lb capb ∧ Lb = bb.length ∧ ae.Sees wx (.slice xb Lb capb) bb ∧ (Lb = 512 → ∀ o, xb ≠ some ⟨g, o, none⟩) ∧ SLat wx gs m n (some ⟨g, 0, none⟩) ∧ CT wx g e c ∧ wx.heap[w.heap.size]? = some (.cells (ncells m) 38 (0, 0)) ∧ Below w.heap.size w wx)
        case first =>
          cases dd
          case true =>
            obtain ⟨r, hr⟩ : ∃ r, r = Ly % 513 := ⟨_, rfl⟩
            have hr5 : (Ly : Int) % 513 = (r : Int) := by omega
            have hrl : r ≤ yb.length := by have := HLY.out; omega
            obtain ⟨st, hrc⟩ := sees_take SY.out r hrl
            have hsl := sl_pre y Ly cy r hrc
            have hrlen : r = (yb.take r).length := by rw [List.length_take]; omega
            have ST := Lib.hid st
            have HRL := Lib.hid hrlen
            have HR512 : Hid (r ≤ 512) := by show _ ≤ _; omega
            have hr0 : (r : Int) ≤ 512 := by omega
            clear hr st hrc hrlen hrl
            go_wp2_with fail
            refine (BL.out _ (yb.take r) _ _ _ ST.out HRL.out HR512.out).mono ?_
            rintro x3 w3 ⟨q0, rfl, hq, hr, hb⟩
            have RQ := Lib.hid hr
            have HQ := Lib.hid hq
            have BB := Lib.hid hb
            clear hr hq hb
            go_wp2_with fail
            go_meet
            have hp : (padN (yb.take r)).length = 512 := padN_len (by rw [List.length_take]; have := HR512.out; omega)
            refine ⟨some ⟨q0, 0, none⟩, 512, 512, padN (yb.take r), rfl, hp.symm, sees_row _ q0 _ (padN_byt ST.out.1) (by rw [hp]; decide) RQ.out 512 hp.symm, fun _ o e => ?_, SL.out.below BB.out, C2.out.below BB.out, (BB.out.block _ (blk_lt K2.out)).trans K2.out, B2.out.trans (BB.out.mono B2.out.size)⟩
            have h1 := blk_lt C2.out
            have h2 := HQ.out
            simp only [Option.some.injEq, Addr.mk.injEq] at e
            omega
          case false =>
            go_wp2_with fail
            go_meet
            refine ⟨y, Ly, cy, yb, rfl, HLY.out, SY.out, fun h5 o e => ?_, SL.out, C2.out, K2.out, B2.out⟩
            obtain ⟨b', o', hx', _, _, _, h4⟩ := SYw.out.cells (fun e2 => by have := HLY.out; rw [e2] at this; simp at this; omega)
            have h5' := World.block_lt_of_cell? w _ (h4 0 (by have := HLY.out; omega))
            rw [hx'] at e
            simp only [Option.some.injEq, Addr.mk.injEq] at e
            have := HGW.out
            simp at h5'
            omega
        case rest =>
          obtain ⟨xb, Lb, capb, bb, rfl, hLb, hsb, hnb, hsl, hct, hk, hbel⟩ := hcut
          have SB := Lib.hid hsb
          have NB := Lib.hid hnb
          have SL := Lib.hid hsl
          have C2 := Lib.hid hct
          have K2 := Lib.hid hk
          have B2 := Lib.hid hbel
          have GG := Lib.hid (HG.out.below hbel HG.out.lt)
          have HLB := Lib.hid hLb
          clear hLb hsb hnb hsl hct hk hbel SY SYw HLY HLY2 t3 hcell2
          have hi6 : (i : Int) ≤ 5 := by have := HL6.out; omega
          by_cases h512 : Lb = 512
          · subst h512
            have ss := SS.out wc gs g c bb xb capb (by have := HC.out; have := HL6.out; have := HLT.out; omega) SL.out C2.out SB.out (NB.out rfl) HLB.out GG.out (by have := HGW.out; have := HG.out.lt; omega)
            have SSJ := Lib.hid ss
            have NBX := Lib.hid (NB.out rfl)
            have hne := Lib.hid (SL_ne SL.out LM.out C2.out)
            obtain ⟨sv, hsv⟩ : ∃ sv, sv = stm e (c + 1) := ⟨_, rfl⟩
            have hst : (1099511627776 : Int) * (e : Int) + ((c : Int) + 1) = (sv : Int) := by rw [hsv]; unfold stm; omega
            have w1 : IntKind.u64.wrap ((c : Int) + 1) = (c : Int) + 1 := by
              have := u64nat (c + 1) (by have := HC.out; have := HL6.out; have := HLT.out; omega)
              simpa using this
            have w2 : IntKind.u64.wrap (1099511627776 * (e : Int)) = 1099511627776 * (e : Int) := by
              have := u64nat (1099511627776 * e) (by have := HE.out; omega)
              simpa using this
            have HS64 : Hid (sv ≤ 18446744073709551615) := by show _ ≤ _; rw [hsv]; unfold stm; have := HE.out; have := HC.out; have := HL6.out; have := HLT.out; omega
            have w3 : IntKind.u64.wrap (sv : Int) = (sv : Int) := u64nat sv (by have := HS64.out; omega)
            have HSP : Hid (∀ x w', SealP wc m n g e c bb x w' → ∃ q, x = .returned (.tuple #[.int .u64 (sv : Int), .slice (some ⟨q, 0, none⟩) 512 512, .int .i64 0]) ∧ wc.heap.size ≤ q ∧ w'.heap[q]? = some (.cells (ncells (sealN m n sv bb)) 5 (0, 0)) ∧ CT w' g e (c + 1) ∧ Elsewhere g wc w') := fun x w' h => by rw [hsv]; exact h
            have HST := Lib.hid hst
            have W1 := Lib.hid w1
            have W2 := Lib.hid w2
            have W3 := Lib.hid w3
            clear ss hsv hst w1 w2 w3 SS
            go_wp2_with fail
            refine SSJ.out.mono ?_
            rintro x3 w3 hsp
            obtain ⟨q, rfl, hq, hr, hct, hel⟩ := HSP.out _ _ hsp
            have RQ := Lib.hid hr
            have SL : Hid (SLat w3 gs m n (some ⟨g, 0, none⟩)) := (hel.1 gs (blk_lt SL.out) hne.out).trans SL.out
            have K2 := Lib.hid ((hel.1 w.heap.size (blk_lt K2.out) (by have := HGW.out; omega)).trans K2.out)
            have SB := Lib.hid (sees_else SB.out NBX.out hel)
            have B2 := Lib.hid (hel.2.1 _ _ (by have := HGW.out; omega) B2.out.size B2.out)
            have GG := Lib.hid (HG.out.below B2.out HG.out.lt)
            have C2 := Lib.hid hct
            have hst := HST.out
            have w1 := W1.out
            have w2 := W2.out
            have w3' := W3.out
            clear hsp hq hr hct hel HSP SSJ
            go_wp2_with fail
            clear hst w1 w2 w3'
            refine (RT.out _ _ sv bb xb capb HS64.out K2.out SB.out HLB.out).mono ?_
            rintro x4 w4 ⟨q2, c2, rfl, hs2, hb⟩
            have S2 := Lib.hid hs2
            have RQ := Lib.hid ((hb.block _ (blk_lt RQ.out)).trans RQ.out)
            have SL := Lib.hid (SL.out.below hb)
            have K2 := Lib.hid ((hb.block _ (blk_lt K2.out)).trans K2.out)
            have SB := Lib.hid (SB.out.below hb)
            have B2 := Lib.hid (B2.out.trans (hb.mono B2.out.size))
            have GG := Lib.hid (GG.out.below hb GG.out.lt)
            have C2 := Lib.hid (C2.out.below hb)
            clear hs2 hb
            go_wp2_with fail
            refine (SO.out _ gs sv _ bb q SL.out SB.out.1 HLB.out RQ.out GG.out).mono ?_
            rintro x5 w5 ⟨q3, rfl, hq, hr3, hb⟩
            have k1 := ((SR.out _ q sv bb SB.out.1 RQ.out).below hb).str
            have k2 := (S2.out.below hb).str
            have k3 := (sees_row w5 q3 bb SB.out.1 (by rw [← HLB.out]; decide) hr3 512 HLB.out).str
            have k4 := (SB.out.below hb).str
            have SL := Lib.hid (SL.out.below hb)
            have K2 := Lib.hid ((hb.block _ (blk_lt K2.out)).trans K2.out)
            have B2 := Lib.hid (B2.out.trans (hb.mono B2.out.size))
            have C2 := Lib.hid (C2.out.below hb)
            have n1 : ((strN (sealN m n sv bb)).toList != (strN (sealN m n sv bb)).toList) = false := by simp
            have n2 : ((strN bb).toList != (strN bb).toList) = false := by simp
            have n3 : ((sv : Int) != (sv : Int)) = false := by simp
            generalize strN (sealN m n sv bb) = J1 at k1 k2 n1
            generalize strN bb = J2 at k3 k4 n2
            clear hq hr3 hb
            go_wp2_with fail
            clear k1 k2 k3 k4 n1 n2 n3
            go_roundw
            case rel => exact ⟨i + 1, c + 1, by have := HLT.out; omega, by have := HC.out; omega, by go_num, by go_num, SL.out, C2.out, K2.out, B2.out⟩
            case measure => have := HL6.out; have := HLT.out; simp [intOf]; omega
          · have t5 : ((Lb : Int) != 512) = true := by simp; omega
            have nf := NF.out wc gs _ xb Lb capb h512 SL.out
            have NFJ := Lib.hid nf
            clear nf h512
            go_wp2_with fail
            refine NFJ.out.mono ?_
            rintro x3 w3 ⟨rfl, rfl⟩
            go_wp2_with fail
            go_roundw
            case rel => exact ⟨i + 1, c, by have := HLT.out; omega, by have := HC.out; omega, rfl, by go_num, SL.out, C2.out, K2.out, B2.out⟩
            case measure => have := HL6.out; have := HLT.out; simp [intOf]; omega
    · have t1 : ¬ (i : Int) < (L : Int) := by omega
      have al : Below wr.heap.size wr (wr.alloc (.cells #[.bool false, .int .u8 0, .int .u8 0, .int .u8 0, .int .u8 0, .int .u8 0, .int .u8 0, .int .u8 0, .int .u8 0, .int .u8 0, .int .u8 0, .int .u8 0, .int .u8 0, .int .u8 0, .int .u8 0, .int .u8 0, .int .u8 0, .int .u8 0, .int .u8 0, .int .u8 0, .int .u8 0, .int .u8 0, .int .u8 0, .int .u8 0, .int .u8 0, .int .u8 0, .int .u8 0, .int .u8 0, .int .u8 0, .int .u8 0, .int .u8 0, .int .u8 0, .int .u8 0, .int .u64 0, .pointer none] 62)) := (Below.refl _ _).alloc (Nat.le_refl _) _
      have Z1 := Lib.hid (heap_alloc_new wr (.cells #[.bool false, .int .u8 0, .int .u8 0, .int .u8 0, .int .u8 0, .int .u8 0, .int .u8 0, .int .u8 0, .int .u8 0, .int .u8 0, .int .u8 0, .int .u8 0, .int .u8 0, .int .u8 0, .int .u8 0, .int .u8 0, .int .u8 0, .int .u8 0, .int .u8 0, .int .u8 0, .int .u8 0, .int .u8 0, .int .u8 0, .int .u8 0, .int .u8 0, .int .u8 0, .int .u8 0, .int .u8 0, .int .u8 0, .int .u8 0, .int .u8 0, .int .u8 0, .int .u8 0, .int .u64 0, .pointer none] 62))
      have b1 := B2.out.trans (al.mono B2.out.size)
      have k1 := (al.block _ (blk_lt K2.out)).trans K2.out
      have hz := heap_alloc_new wr (.cells #[.bool false, .int .u8 0, .int .u8 0, .int .u8 0, .int .u8 0, .int .u8 0, .int .u8 0, .int .u8 0, .int .u8 0, .int .u8 0, .int .u8 0, .int .u8 0, .int .u8 0, .int .u8 0, .int .u8 0, .int .u8 0, .int .u8 0, .int .u8 0, .int .u8 0, .int .u8 0, .int .u8 0, .int .u8 0, .int .u8 0, .int .u8 0, .int .u8 0, .int .u8 0, .int .u8 0, .int .u8 0, .int .u8 0, .int .u8 0, .int .u8 0, .int .u8 0, .int .u8 0, .int .u64 0, .pointer none] 62)
      have B3 := Lib.hid b1
      have K3 := Lib.hid k1
      have Z3 := Lib.hid hz
      clear hi hc hlt hsl hct hk hbel al b1 k1 hz Z1 SS NF RT SO SR
      go_wp2_with fail
      have b3 := B3.out
      have k3 := K3.out
      have z3 := Z3.out
      clear B3 K3 Z3
      generalize hzg : wr.heap.size = zg at z3 ⊢
      clear hzg
      generalize wr.alloc (.cells #[.bool false, .int .u8 0, .int .u8 0, .int .u8 0, .int .u8 0, .int .u8 0, .int .u8 0, .int .u8 0, .int .u8 0, .int .u8 0, .int .u8 0, .int .u8 0, .int .u8 0, .int .u8 0, .int .u8 0, .int .u8 0, .int .u8 0, .int .u8 0, .int .u8 0, .int .u8 0, .int .u8 0, .int .u8 0, .int .u8 0, .int .u8 0, .int .u8 0, .int .u8 0, .int .u8 0, .int .u8 0, .int .u8 0, .int .u8 0, .int .u8 0, .int .u8 0, .int .u8 0, .int .u64 0, .pointer none] 62) = w3 at b3 k3 z3 ⊢
      have B3 := Lib.hid b3
      have K3 := Lib.hid k3
      have Z3 : Hid (w3.cell? ⟨zg, 0, none⟩ = some (.bool false)) := by show _ = _; rw [cell_of_row _ _ _ _ _ _ z3]; rfl
      have ZB : Hid (zg < w3.heap.size) := blk_lt z3
      clear b3 k3 z3
      refine (BL.out _ [] none 0 0 (sees_nil _) rfl (by omega)).mono ?_
      rintro x3 w4 ⟨q0, rfl, hq, hr, hb⟩
      have B4 := Lib.hid (B3.out.trans (hb.mono B3.out.size))
      have K4 := Lib.hid ((hb.block _ (blk_lt K3.out)).trans K3.out)
      have Z4 := Lib.hid ((hb.cell (p := ⟨zg, 0, none⟩) ZB.out).trans Z3.out)
      have ZB4 := Lib.hid (Nat.lt_of_lt_of_le ZB.out hb.size)
      clear hq hr hb B3 K3 Z3 ZB
      go_wp2_with fail
      refine (sealNil _ _).mono ?_
      rintro x4 w5 ⟨rfl, rfl⟩
      go_wp2_with fail
      refine (BL.out _ [] none 0 0 (sees_nil _) rfl (by omega)).mono ?_
      rintro x5 w5 ⟨q1, rfl, hq, hr, hb⟩
      have B5 := Lib.hid (B4.out.trans (hb.mono B4.out.size))
      have K5 := Lib.hid ((hb.block _ (blk_lt K4.out)).trans K4.out)
      have oz := openZero zg 1 (.slice (some ⟨q1, 0, none⟩) 512 512) w5 ((hb.cell (p := ⟨zg, 0, none⟩) ZB4.out).trans Z4.out)
      have OZ := Lib.hid oz
      clear hq hr hb B4 K4 Z4 ZB4 oz
      go_wp2_with fail
      refine OZ.out.mono ?_
      rintro x6 w6 ⟨rfl, rfl⟩
      go_wp2_with (refine wpList_load_row rfl 38 (.tmp 4) rfl w.heap.size rfl 38 (ncells m) (0, 0) _ K5.out Tryd.underlying38 rfl (i23 LM.out) ?_)
      refine (NS.out _ _).mono ?_
      rintro x7 w7 ⟨gt, rfl, _, hsl, hb⟩
      have B7 := Lib.hid (B5.out.trans (hb.mono B5.out.size))
      have S7 := Lib.hid hsl
      clear hsl hb B5 K5 OZ
      go_wp2_with fail
      refine (BL.out _ [] none 0 0 (sees_nil _) rfl (by omega)).mono ?_
      rintro x8 w8 ⟨q2, rfl, hq, hr, hb⟩
      have B8 := Lib.hid (B7.out.trans (hb.mono B7.out.size))
      have S8 := Lib.hid (S7.out.below hb)
      clear hq hr hb B7 S7
      go_wp2_with fail
      refine (NC.out _ gt _ 512 S8.out).mono ?_
      rintro x9 w9 ⟨rfl, rfl⟩
      have G8 := Lib.hid (HG.out.below B8.out HG.out.lt)
      go_wp2_with fail
      refine (AL.out _ G8.out).mono ?_
      rintro x10 w10 ⟨rfl, hb⟩
      have B10 := Lib.hid (B8.out.trans (hb.mono B8.out.size))
      clear hb
      go_wp2_with fail
      go_ret
      exact ⟨rfl, B10.out⟩
theorem all (m : List Nat) (hm : ae.Bts 32 m) (n e : Nat) (hn : n ≤ 18446744073709551615) (v : Value) (xs : List (List Nat)) (w : World) (hs : TX w v xs) (hG : sh.Glob w) :
    Calls Tryd.prog 8 #[.agg (ncells m), .int .u64 n, .int .u64 e, v] w fun e w' => e = .returned (.bool true) ∧ Below w.heap.size w w' := by
  obtain ⟨x, cap, rfl⟩ := hs.form
  by_cases h : e ≤ 16777215 ∧ xs.length ≤ 6
  · exact walk m hm n e hn h.1 x _ cap xs rfl h.2 w hs hG
  · exact walkNo m n e x _ cap (by omega) w hG

set_option maxRecDepth 100000 in
theorem lifted (os : Os) (started : os.Started) (H : Type) (enc : TypeId × Value → H) :
    ReturnsInHanded {} Tryd.checked os 8 .any (fun w args => (Rows.sealCountsSpec.pre enc Tryd.prog Tryd.f8 [] false w args ∧ laidMetH Tryd.prog sh.laid2 w) ∧ sizedMet enc Tryd.prog Tryd.f8 (OpenSpec.ofChange Rows.sealCountsSpec) false w args)
      (Rows.sealCountsSpec.post enc Tryd.prog Tryd.f8 false true false false) := by
  refine returnsInHanded_of_change_and (C := Tryd.checked) (X := fun w _ => laidMetH Tryd.prog sh.laid2 w) (fun _ _ _ hh h => h.of_heap hh) sh.own started (by kernel_rfl) Tryd.func8
    (ChangeSpec.witness_shaped (enc := enc) (C := Tryd.checked) (os := os) (X := fun w _ => laidMetH Tryd.prog sh.laid2 w) false (World.doorLaid Tryd.prog 400 os) #[.agg (Array.replicate 32 (.int .u8 0)), .int .u64 0, .int .u64 0, .slice none 0 0] 8 rfl (World.shaped_of_RefB (by kernel_rfl) (by kernel_rfl)) (by kernel_rfl) (by kernel_rfl) (by kernel_rfl) (sh.door_met os _)) ?_
  intro W base args ds gs before hval0 hW _ _ hL _
  have hval : ∀ (j : Nat) t v, Tryd.f8.params[j]? = some t → args[j]? = some v → Value.okWide Tryd.prog W .any base t v := hval0
  have hW' := hW
  obtain ⟨p, q, hA0, hV, rfl, hfz, hnd⟩ := hW
  have hA : DataW.TrodAll enc Tryd.prog W 0 (fun _ => true) true Tryd.f8.params.toList args.toList ds p := hA0
  rw [Tryd.params8] at hA hval
  obtain ⟨v0, vs0, d0, ds0, p0, q0, hargs, rfl, rfl, h0, r0⟩ := trodAll_cons hA
  obtain ⟨v1, vs1, d1, ds1, p1, q1, rfl, rfl, rfl, h1, r1⟩ := trodAll_cons r0
  obtain ⟨v2, vs2, d2, ds2, p2, q2, rfl, rfl, rfl, h2, r2⟩ := trodAll_cons r1
  obtain ⟨v3, vs3, d3, ds3, p3, q3, rfl, rfl, rfl, h3, r3⟩ := trodAll_cons r2
  obtain ⟨rfl, rfl, rfl⟩ := trodAll_nil r3
  obtain rfl : args = #[v0, v1, v2, v3] := by cases args; simp_all
  obtain ⟨rfl, rfl⟩ := trodVars_none hV
  obtain ⟨x0, s0, rfl⟩ := ae.open_arr (n := 32) (by kernel_rfl) (by kernel_rfl) (hval 0 38 v0 rfl rfl) h0
  obtain ⟨a1, rfl, rfl, rfl, w1⟩ := open_int Tryd.underlying22 (hval 1 22 v1 rfl rfl) h1
  have b1 := bounds_u64 w1
  obtain ⟨n1, rfl⟩ : ∃ n : Nat, a1 = n := ⟨a1.toNat, by omega⟩
  obtain ⟨a2, rfl, rfl, rfl, w2⟩ := open_int Tryd.underlying22 (hval 2 22 v2 rfl rfl) h2
  have b2 := bounds_u64 w2
  obtain ⟨n2, rfl⟩ : ∃ n : Nat, a2 = n := ⟨a2.toNat, by omega⟩
  obtain ⟨x3, s3⟩ := sh.open_texts (hval 3 54 v3 rfl rfl) h3
  refine (all x0 s0 n1 n2 (by omega) v3 _ W (tx_of s3) (sh.of_laid hL)).mono fun e W' ⟨he, hb⟩ => ?_
  subst he
  exact ⟨_, rfl, sh.law_post hW' rfl rfl rfl (by kernel_rfl) hb⟩
/-- The row's statement. -/
theorem row_holds : Rows.SealCountsSaid :=
  OpenClaim.holds_of_wide 8 Tryd.f8 rfl rfl rfl rfl rfl rfl rfl ⟨rfl, rfl, rfl, rfl, rfl⟩ rfl rfl rfl rfl rfl (by kernel_rfl) Tryd.func8 (by kernel_rfl)
    (of_decide_eq_true (by kernel_rfl)) (by unfold Func.isWrapper; first | (rw [if_pos (by decide +kernel)]; kernel_rfl) | (rw [if_neg (by decide +kernel)]; exact ⟨rfl, rfl⟩))
    (fun os started H enc _ => lifted os started H enc)
/-- The tied card. -/
theorem proved : Rows.SealCountsCardSaid :=
  Claim7.holds_tied_plain_at .later [] [.data, .data] true (true, "0457159e5fbc900da0b901a90696513c7756748e29878623afbd297629de2456") false
    row_holds (fun _ h => by cases h) (by kernel_rfl) (fun _ h => by cases h) Go.Proofs.YtpkeofioobmmoaaDoor.sealCounts_row_tie rfl ⟨rfl, rfl⟩ (by kernel_rfl) rfl
    (fun f fn hf hfn => by
      obtain rfl : f = 8 := Option.some.inj ((show Tryd.prog.funcNamed "casemate/casematelaw22.SealCounts" = some 8 by kernel_rfl).symm.trans hf) |>.symm
      obtain rfl : fn = Tryd.f8 := (Option.some.inj (Tryd.func8.symm.trans hfn)).symm
      exact ⟨by kernel_rfl, fun j t ht => by
        rw [Tryd.params8] at ht
        have hm : t ∈ [38, 22, 22, 54] := by simpa using Array.mem_of_getElem? ht
        have hall : ([38, 22, 22, 54].all fun u => !Tryd.prog.wantsStandIn u) = true := by kernel_rfl
        exact (show Tryd.prog.wantsStandIn t = false by simpa using List.all_eq_true.1 hall t hm)⟩)
    (by kernel_rfl)
#print axioms proved
end Go.Proofs.YtpkeofioobmmoaaDoor.sealCounts
