/-
  For all texts the law HashlogStays of package casematelaw08 returns true, and they read afterwards as before: what was summed stays, a text that comes again adds nothing. Condition: the two tables hold what their initialisers lay (the row's premise).
-/
import Derived.Test.YtboaceabimlodaaDoorLF
import Derived.Test.YtboaceabimlodaaDoorRefF
namespace Go.Proofs.YtboaceabimlodaaDoor.hashlogStays
open Go.ChangeShapes Go.WideShapes Go.ChangeAt Go.RowKit
theorem form_m {w : World} {v : Value} {xss : List (List Int)} (h : SeesM w v xss) : ∃ x c, v = .slice x xss.length c ∧ xss.length ≤ 9223372036854775807 ∧ ∀ i, i < xss.length → ∃ b o u, x = some ⟨b, o, none⟩ ∧ w.cell? ⟨b, o + i, none⟩ = some u ∧ Sees w u (xss.getD i []) := by
  rcases h with ⟨x, c, rfl, rfl⟩ | ⟨b, o, c, rfl, _, h1, _, h2⟩
  · exact ⟨x, c, rfl, by simp, fun i hi => by simp at hi⟩
  · refine ⟨_, c, rfl, by unfold maxLen at h1; omega, fun i hi => ?_⟩
    obtain ⟨u, e1, e2⟩ := h2 i hi
    exact ⟨b, o, u, rfl, e1, e2⟩
/-- The first texts, each once. -/
def acc (f : Nat → List Int) : Nat → List (List Int)
  | 0 => []
  | i + 1 => addT (acc f i) (f i)
theorem acc_mem {f : Nat → List Int} {t : List Int} : ∀ {i : Nat}, t ∈ acc f i ↔ ∃ j, j < i ∧ f j = t
  | 0 => ⟨fun h => (by cases h), fun ⟨_, h, _⟩ => (by omega)⟩
  | i + 1 => by
    rw [acc, addT_mem, acc_mem]
    constructor
    · rintro (⟨j, h1, h2⟩ | rfl)
      · exact ⟨j, by omega, h2⟩
      · exact ⟨i, by omega, rfl⟩
    · rintro ⟨j, h1, h2⟩
      by_cases e : j = i
      · subst e; exact .inr h2.symm
      · exact .inl ⟨j, by omega, h2⟩
theorem acc_nodup (f : Nat → List Int) : ∀ i, (acc f i).Nodup
  | 0 => List.nodup_nil
  | i + 1 => addT_nodup (acc_nodup f i) _
theorem acc_len (f : Nat → List Int) : ∀ i, (acc f i).length ≤ i
  | 0 => Nat.le_refl _
  | i + 1 => by
    rw [acc, addT_len]
    have := acc_len f i
    split <;> omega
theorem acc_rev {f : Nat → List Int} {n : Nat} : (acc f n).length = (acc (fun j => f (n - 1 - j)) n).length := by
  have e : ∀ t, t ∈ acc f n ↔ t ∈ acc (fun j => f (n - 1 - j)) n := fun t => by
    rw [acc_mem, acc_mem]
    constructor
    · rintro ⟨j, h1, h2⟩
      exact ⟨n - 1 - j, by omega, by rw [show n - 1 - (n - 1 - j) = j from by omega]; exact h2⟩
    · rintro ⟨j, h1, h2⟩
      exact ⟨n - 1 - j, by omega, h2⟩
  exact ((List.perm_ext_iff_of_nodup (acc_nodup _ _) (acc_nodup _ _)).2 e).length_eq
set_option maxRecDepth 100000 in
set_option maxHeartbeats 4000000 in
theorem walkBig (xl : Option Addr) (n cl : Nat) (w : World) (hG : Glob w) (h : 40 < n) : Calls Tryd.prog 6 #[.slice xl n cl] w fun e w' => e = .returned (.bool true) ∧ Below w.heap.size w w' := by
  have AL := Lib.hid (alive8 w hG)
  have h1 : (40 : Int) < (n : Int) := by omega
  clear h hG
  go_enter Tryd.func6, Tryd.ntmps6
  go_wp2_with fail
  refine AL.out.mono ?_
  rintro e w1 ⟨rfl, hb⟩
  go_wp2_with fail
  go_ret
  exact ⟨rfl, hb⟩
set_option maxRecDepth 100000 in
set_option maxHeartbeats 8000000 in
theorem walk (xss : List (List Int)) (vl : Value) (w : World) (hG : Glob w) (hm : SeesM w vl xss) (hln : ∀ i, i < xss.length → (xss.getD i []).length ≤ 140737488351232) (hn40 : xss.length ≤ 40) :
    Calls Tryd.prog 6 #[vl] w fun e w' => e = .returned (.bool true) ∧ Below w.heap.size w w' := by
  obtain ⟨xl, cl, rfl, _, hrow⟩ := form_m hm
  obtain ⟨X, hX⟩ : ∃ X : Nat → List Int, X = fun i => xss.getD i [] := ⟨_, rfl⟩
  obtain ⟨n, hn⟩ : ∃ n, n = xss.length := ⟨_, rfl⟩
  have hrow' : ∀ i, i < n → ∃ b o u, xl = some ⟨b, o, none⟩ ∧ w.cell? ⟨b, o + i, none⟩ = some u ∧ Sees w u (X i) := by rw [hX, hn]; exact hrow
  have hln' : ∀ i, i < n → (X i).length ≤ 140737488351232 := by rw [hX, hn]; exact hln
  rw [← hn] at hn40 ⊢
  have g1 : ¬ (40 : Int) < (n : Int) := by omega
  have z27 := zv27
  obtain ⟨Z27, hZ27⟩ : ∃ Z, Z = bcells (List.replicate 32 0) := ⟨_, rfl⟩
  rw [← hZ27] at z27
  have H2 : Hid (2 ≤ w.heap.size) := by have := hG.lt; show 2 ≤ _; omega
  have HGL := Lib.hid hG
  have HROW := Lib.hid hrow'
  have HLN := Lib.hid hln'
  have HN40 := Lib.hid hn40
  have HZ27 := Lib.hid hZ27
  clear hG hm hln hrow hrow' hln' hZ27 hn hX hn40
  go_enter Tryd.func6, Tryd.ntmps6
  go_wp2_with fail
  refine (newL _ H2.out).mono ?_
  rintro e w1 ⟨g, rfl, hl1, hge, hb1⟩
  have L1 := Lib.hid hl1
  have B1 := Lib.hid hb1
  have NL2 := Lib.hid (newL w1 (Nat.le_trans H2.out hb1.size))
  clear hl1 hge hb1
  go_wp2_with fail
  refine NL2.out.mono ?_
  rintro e w2 ⟨h, rfl, hl2, hge, hb2⟩
  have L2 := Lib.hid hl2
  have L12 := Lib.hid (L1.out.below hb2)
  have D12 : Hid (∀ q, (w.heap.size ≤ q ∧ q < w.heap.size + 2) → ¬ (w1.heap.size ≤ q ∧ q < w1.heap.size + 2)) := fun q h1 h2 => by
    have := (L1.out.own q h1).2
    omega
  have B2 := Lib.hid (B1.out.trans (hb2.mono B1.out.size))
  have N2 : Hid (∀ q, (w1.heap.size ≤ q ∧ q < w1.heap.size + 2) → w.heap.size ≤ q) := fun q h1 => by
    have := B1.out.size
    omega
  clear hl2 hge hb2 NL2 L1 B1
  go_wp2_with fail
  go_loopw [5] (fun vi wr => ∃ (i : Nat) (S U : Nat → Prop), i ≤ n ∧ vi = .int .i64 (i : Int) ∧ LG S wr g (acc X i) ∧ LG U wr h (acc (fun j => X (n - 1 - j)) i) ∧ (∀ q, S q → w.heap.size ≤ q) ∧ (∀ q, U q → w.heap.size ≤ q) ∧ (∀ q, S q → ¬ U q) ∧ Below w.heap.size w wr) (fun vi _ => n - (intOf vi).toNat)
  case atStart => exact ⟨0, _, _, by omega, rfl, L12.out, L2.out, fun q hq => hq.1, N2.out, D12.out, B2.out⟩
  case round =>
    clear L12 L2 D12 B2 N2
    obtain ⟨i, S, U, hi, rfl, hlx, hly, hS, hU, hSU, hbw⟩ := hrel
    have LX := Lib.hid hlx
    have LY := Lib.hid hly
    have HS := Lib.hid hS
    have HU := Lib.hid hU
    have HSU := Lib.hid hSU
    have HBW := Lib.hid hbw
    clear hlx hly hS hU hSU hbw
    by_cases hlt : i < n
    · have hii : (i : Int) < (n : Int) := by omega
      obtain ⟨bb, oo, u, rfl, hcu, hsu⟩ := HROW.out i hlt
      obtain ⟨k, hk⟩ : ∃ k, k = n - 1 - i := ⟨_, rfl⟩
      have hkn : k < n := by omega
      have hki : (n : Int) - 1 - (i : Int) = (k : Int) := by omega
      obtain ⟨bb', oo', u', hq', hcu', hsu'⟩ := HROW.out k hkn
      obtain ⟨rfl, rfl⟩ : bb = bb' ∧ oo = oo' := by
        simp only [Option.some.injEq, Addr.mk.injEq] at hq'
        exact ⟨hq'.1, hq'.2.1⟩
      clear hq'
      have HLX := Lib.hid (HLN.out i hlt)
      have HLY := Lib.hid (HLN.out k hkn)
      obtain ⟨x, hx⟩ : ∃ x, x = X i := ⟨_, rfl⟩
      obtain ⟨y, hy⟩ : ∃ y, y = X k := ⟨_, rfl⟩
      rw [← hx] at hsu HLX
      rw [← hy] at hsu' HLY
      have AX : Hid (acc X (i + 1) = addT (acc X i) x) := by show _ = _; rw [hx]; rfl
      have AY : Hid (acc (fun j => X (n - 1 - j)) (i + 1) = addT (acc (fun j => X (n - 1 - j)) i) y) := by show _ = _; rw [hy, hk]; rfl
      have LTX : Hid ((acc X i).length ≤ 40) := by have := acc_len X i; have := HN40.out; show _ ≤ _; omega
      have LTY : Hid ((acc (fun j => X (n - 1 - j)) i).length ≤ 40) := by have := acc_len (fun j => X (n - 1 - j)) i; have := HN40.out; show _ ≤ _; omega
      have cu : wr.cell? ⟨bb, oo + i, none⟩ = some u := (HBW.out.cell (p := ⟨bb, oo + i, none⟩) (World.block_lt_of_cell? w _ hcu)).trans hcu
      have CK := Lib.hid hcu'
      have CI := Lib.hid hcu
      have HSUK := Lib.hid hsu'
      have HSUX := Lib.hid hsu
      obtain ⟨xu, cuu, rfl, hmx⟩ := hsu.form
      obtain ⟨yu, cyu, rfl, hmy⟩ := hsu'.form
      have LBB := Lib.hid (World.block_lt_of_cell? w _ hcu)
      obtain ⟨lu, hlu⟩ : ∃ lu, lu = x.length := ⟨_, rfl⟩
      rw [← hlu] at HSUX hmx cu CI HLX
      obtain ⟨ly, hly⟩ : ∃ ly, ly = y.length := ⟨_, rfl⟩
      rw [← hly] at HSUK hmy CK HLY
      have HLU := Lib.hid hlu
      have HLYU := Lib.hid hly
      have CU := Lib.hid cu
      obtain ⟨Tx, hTx⟩ : ∃ Tx, Tx = acc X i := ⟨_, rfl⟩
      obtain ⟨Ty, hTy⟩ : ∃ Ty, Ty = acc (fun j => X (n - 1 - j)) i := ⟨_, rfl⟩
      rw [← hTx] at LX LTX AX
      rw [← hTy] at LY LTY AY
      clear hcu hlu hly hsu hcu' hsu' hx hy cu hTx hTy HROW HLN hk
      by_cases h3 : (300 : Int) < (lu : Int)
      · have AL := Lib.hid (alive8 wr (HGL.out.below HBW.out H2.out))
        have cu := CU.out
        go_wp2_with fail
        refine AL.out.mono ?_
        rintro e w2 ⟨rfl, hb2⟩
        have B2 := Lib.hid (HBW.out.trans (hb2.mono HBW.out.size))
        clear hb2 cu
        go_wp2_with fail
        go_ret
        exact ⟨rfl, B2.out⟩
      · have CX := Lib.hid (countY S g Tx wr LX.out)
        have HX := Lib.hid (hasY S g Tx x (.slice xu lu cuu) wr LX.out (by have := LTX.out; omega) (HGL.out.below HBW.out H2.out) HSUX.out.1 (by have := HLU.out; have := HLX.out; omega) (HSUX.out.below HBW.out))
        obtain ⟨was, hwas⟩ : ∃ was, was = decide (x ∈ Tx) := ⟨_, rfl⟩
        obtain ⟨M0, hM0⟩ : ∃ M0 : Int, M0 = (Tx.length : Int) := ⟨_, rfl⟩
        rw [← hwas] at HX
        rw [← hM0] at CX
        have EQM : Hid ((was = true ∧ ((addT Tx x).length : Int) = M0) ∨ (was = false ∧ ((addT Tx x).length : Int) ≠ M0)) := by
          show _ ∨ _
          rw [hwas, hM0]
          have h5 := addT_len Tx x
          by_cases hx : x ∈ Tx
          · rw [if_pos hx] at h5
            exact .inl ⟨decide_eq_true hx, by omega⟩
          · rw [if_neg hx] at h5
            exact .inr ⟨decide_eq_false hx, by omega⟩
        clear hwas hM0
        have cu := CU.out
        go_wp2_with fail
        refine CX.out.mono ?_
        rintro e w' ⟨rfl, rfl⟩
        clear CX
        go_wp2_with fail
        refine HX.out.mono ?_
        rintro e w3 ⟨rfl, hb3⟩
        have B3 := Lib.hid (HBW.out.trans (hb3.mono HBW.out.size))
        have LX3 := Lib.hid (LX.out.below hb3)
        have LY3 := Lib.hid (LY.out.below hb3)
        have CU3 : Hid (w3.cell? ⟨bb, oo + i, none⟩ = some (.slice xu lu cuu)) := (B3.out.cell (p := ⟨bb, oo + i, none⟩) LBB.out).trans CI.out
        have SM := Lib.hid (sumY S g Tx x (.slice xu lu cuu) w3 LX3.out (fun q n0 e hs => by
          have h1 := HSUX.out.lt q n0 e
          have h2 := HS.out q hs
          omega) (by have := LTX.out; omega) (HGL.out.below B3.out H2.out) HSUX.out.1 (by have := HLU.out; have := HLX.out; omega) (HSUX.out.below B3.out))
        clear hb3 HX cu CU LX LY
        have cu := CU3.out
        obtain ⟨A, hA⟩ : ∃ A, A = sha x := ⟨_, rfl⟩
        obtain ⟨B, hB⟩ : ∃ B, B = sha y := ⟨_, rfl⟩
        have lA : A.length = 32 := by rw [hA]; exact sha_len _ HSUX.out.1
        have lB : B.length = 32 := by rw [hB]; exact sha_len _ HSUK.out.1
        have bA : Byt A := by rw [hA]; exact sha_byt _
        have bB : Byt B := by rw [hB]; exact sha_byt _
        have iA : Hid ((Tryd.prog.info? 31).map (·.size) = some (bcells A).size) := by show _ = _; rw [i27, bsize, lA]
        have zA : Hid (Z27.size = (bcells A).size) := by show _ = _; rw [HZ27.out, bsize, bsize, lA, List.length_replicate]
        have oA := Lib.hid (bone A)
        have HA := Lib.hid hA
        have HB := Lib.hid hB
        have EQ0 := Lib.hid (fun (W : World) => eq27 A B bA bB lA lB W)
        clear hA hB lA lB bA bB
        go_wp2_with fail
        refine SM.out.mono ?_
        rintro e w4 ⟨rfl, hl4, hm4⟩
        rw [← HA.out]
        have B4 := Lib.hid (hm4.below B3.out B3.out.size HS.out)
        have zn := Lib.hid (heap_alloc_new w4 (.cells Z27 31))
        obtain ⟨w5, hw5⟩ : ∃ w5, w5 = (w4.alloc (.cells Z27 31)).setRow w4.heap.size (bcells A) := ⟨_, rfl⟩
        have b45 : Below w4.heap.size w4 w5 := by
          rw [hw5]
          exact ((Below.refl _ _).alloc (Nat.le_refl _) _).trans (below_row _ _ (Nat.le_refl _))
        have B5 : Hid (Below w.heap.size w w5) := B4.out.trans (b45.mono B4.out.size)
        have R5 : Hid (w5.heap[w4.heap.size]? = some (.cells (bcells A) 31 (0, 0))) := by rw [hw5]; exact setRow_heap _ _ _ _ _ _ zn.out
        have LX5 := Lib.hid (hl4.below b45)
        have LY5 : Hid (LG U w5 h Ty) := (LY3.out.mods hm4 (fun q h1 h2 => HSU.out q h2 h1)).below b45
        obtain ⟨S5, hS5⟩ : ∃ S5 : Nat → Prop, S5 = fun q => S q ∨ w3.heap.size ≤ q ∧ q < w4.heap.size := ⟨_, rfl⟩
        rw [← hS5] at LX5
        have NS5 : Hid (∀ q, S5 q → w.heap.size ≤ q) := fun q hq => by
          rw [hS5] at hq
          have := B3.out.size
          rcases hq with hq | hq
          · exact HS.out q hq
          · omega
        have DS5 : Hid (∀ q, S5 q → ¬ U q ∧ q < w4.heap.size) := fun q hq => by
          rw [hS5] at hq
          rcases hq with hq | hq
          · exact ⟨HSU.out q hq, (hl4.own q (.inl hq)).2⟩
          · exact ⟨fun h2 => by have := (LY3.out.own q h2).2; omega, hq.2⟩
        have L45 : Hid (w4.heap.size < w5.heap.size) := blk_lt R5.out
        have UL4 : Hid (∀ q, U q → q < w4.heap.size) := fun q h2 => by have := (LY3.out.own q h2).2; have := hm4.size; omega
        have HW5 := Lib.hid hw5
        clear hl4 hm4 hw5 b45 hS5 cu CU3 SM LX3 LY3
        go_wp2_with (refine wpList_store_row rfl 31 (.tmp 8) (.tmp 42) rfl w4.heap.size (bcells A) rfl rfl 31 Z27 zn.out iA.out zA.out oA.out ?_)
        rw [← HW5.out]
        clear HW5 zn
        have b5d : Below w5.heap.size w5 w5.drew := (Below.refl _ _).drew
        obtain ⟨M1, hM1⟩ : ∃ M1 : Int, M1 = ((addT Tx x).length : Int) := ⟨_, rfl⟩
        have HWR : Hid (IntKind.i64.wrap (IntKind.i64.wrap ((n : Int) - 1) - (i : Int)) = (k : Int)) := by
          have := HN40.out
          show _ = _
          rw [IntWalk.i64_in ((n : Int) - 1) (by omega), IntWalk.i64_in _ (by omega)]
          omega
        have CN : Hid (Calls Tryd.prog 11 #[.pointer (some ⟨g, 0, none⟩)] w5.drew fun e w' => e = .returned (.int .i64 M1) ∧ w5.drew = w') := by
          have := countY S5 g (addT Tx x) w5.drew (LX5.out.below b5d)
          rw [← hM1] at this
          exact this
        rw [← hM1] at EQM
        have SY := Lib.hid (sumY U h Ty y (.slice yu ly cyu) w5.drew (LY5.out.below b5d) (fun q n0 e hs => by
          have h1 := HSUK.out.lt q n0 e
          have h2 := HU.out q hs
          omega) (by have := LTY.out; omega) (HGL.out.below (B5.out.trans (b5d.mono B5.out.size)) H2.out) HSUK.out.1 (by have := HLYU.out; have := HLY.out; omega) (HSUK.out.below (B5.out.trans (b5d.mono B5.out.size))))
        have RW6 : Hid (∀ w6 : World, Mods U w5.drew w6 → Below w.heap.size w w6 ∧ w6.heap[w4.heap.size]? = some (.cells (bcells A) 31 (0, 0))) := fun w6 hm =>
          ⟨hm.below B5.out.drew (Nat.le_trans B5.out.size b5d.size) HU.out, (hm.block _ (Nat.lt_of_lt_of_le L45.out b5d.size) (fun hq => Nat.lt_irrefl _ (UL4.out _ hq))).trans R5.out⟩
        have FIN : Hid (∀ w6 : World, LG (fun q => U q ∨ w5.drew.heap.size ≤ q ∧ q < w6.heap.size) w6 h (addT Ty y) → Mods U w5.drew w6 →
            LG S5 w6 g (addT Tx x) ∧ LG (fun q => U q ∨ w5.drew.heap.size ≤ q ∧ q < w6.heap.size) w6 h (addT Ty y) ∧ (∀ q, (U q ∨ w5.drew.heap.size ≤ q ∧ q < w6.heap.size) → w.heap.size ≤ q) ∧ (∀ q, S5 q → ¬ (U q ∨ w5.drew.heap.size ≤ q ∧ q < w6.heap.size)) ∧ Below w.heap.size w w6) := fun w6 hl hm =>
          ⟨(LX5.out.below b5d).mods hm (fun q h1 h2 => (DS5.out q h1).1 h2), hl, fun q hq => by
            have := B5.out.size
            have := b5d.size
            rcases hq with hq | hq
            · exact HU.out q hq
            · omega, fun q hq h2 => by
            have h3 := (DS5.out q hq).2
            have := L45.out
            have := b5d.size
            rcases h2 with h2 | h2
            · exact (DS5.out q hq).1 h2
            · omega, (RW6.out w6 hm).1⟩
        have SQ0 : Hid (A ≠ B → ((strOfNums x).toList == (strOfNums y).toList) = false) := fun e => by
          rw [str_eq HSUX.out.1 HSUK.out.1]
          exact decide_eq_false (fun e2 => e (by rw [HA.out, HB.out, e2]))
        clear hM1 LX5 LY5 b5d
        rcases EQM.out with ⟨rfl, hM⟩ | ⟨rfl, hM⟩
        · subst hM
          by_cases hAB : A = B
          · have EQ : Hid (∀ W : World, (Op.equalIn 10000 31 (.agg (bcells A)) (.agg (bcells B))).run Tryd.prog W = .ok true W) := fun W => by rw [EQ0.out W, decide_eq_true hAB]
            clear hAB EQ0 SQ0
            refine wp_region_held_drew (S := fun W => Below w.heap.size w W ∧ W.heap[w4.heap.size]? = some (.cells (bcells A) 31 (0, 0))) (by kernel_rfl) ⟨B5.out.drew, R5.out⟩ (fun hS => ?_)
            refine' wpAnyH_take (i := 0) ?h1x0ys ?hsx0ys ?hfx0ys ?hrx0ys ?hQx0ys (Or.inl ⟨?hwx0ys, ?hyx0ys⟩) hS ?restx0ys
            case h1x0ys => (simp only [List.getElem?_toArray, List.getElem?_cons_zero]; rfl)
            case hsx0ys => kernel_rfl
            case hfx0ys => kernel_rfl
            case hrx0ys => kernel_rfl
            case hQx0ys => exact fun _ _ _ h => h
            case hwx0ys => rfl
            case hyx0ys =>
              intro W hW
              go_simp
              try with_reducible rfl
            simp only [Act.put, List.setIfInBounds_toArray, List.set_cons_succ, List.set_cons_zero]
            refine' wpAnyH_take (i := 2) ?h1x2ys ?hsx2ys ?hfx2ys ?hrx2ys ?hQx2ys (Or.inl ⟨?hwx2ys, ?hyx2ys⟩) hS ?restx2ys
            case h1x2ys => (simp only [List.getElem?_toArray, List.getElem?_cons_succ, List.getElem?_cons_zero]; rfl)
            case hsx2ys => kernel_rfl
            case hfx2ys => kernel_rfl
            case hrx2ys => kernel_rfl
            case hQx2ys => exact fun _ _ _ h => h
            case hwx2ys => rfl
            case hyx2ys =>
              intro W hW
              go_simp
              try with_reducible rfl
            simp only [Act.put, List.setIfInBounds_toArray, List.set_cons_succ, List.set_cons_zero]
            refine' wpAnyH_take (i := 4) ?h1x4ys ?hsx4ys ?hfx4ys ?hrx4ys ?hQx4ys (Or.inl ⟨?hwx4ys, ?hyx4ys⟩) hS ?restx4ys
            case h1x4ys => (simp only [List.getElem?_toArray, List.getElem?_cons_succ, List.getElem?_cons_zero]; rfl)
            case hsx4ys => kernel_rfl
            case hfx4ys => kernel_rfl
            case hrx4ys => kernel_rfl
            case hQx4ys => exact fun _ _ _ h => h
            case hwx4ys => rfl
            case hyx4ys =>
              intro W hW
              go_simp
              try with_reducible rfl
            simp only [Act.put, List.setIfInBounds_toArray, List.set_cons_succ, List.set_cons_zero]
            refine wpAnyH_ready (rs := [1]) (by kernel_rfl) (by simp) ?_
            refine' AllReadyH.cons ?hoc1ys (fun K hK => ?stc1ys) AllReadyH.nil
            case hoc1ys => (simp only [List.getElem?_toArray, List.getElem?_cons_succ, List.getElem?_cons_zero]; rfl)
            go_simp
            refine (CN.out).mono ?_
            rintro e w' ⟨rfl, rfl⟩
            go_wp2_with fail
            refine hK.out _ _ hS (fun hHeld => ?_)
            clear hK K
            try simp only [Act.put, List.setIfInBounds_toArray, List.set_cons_succ, List.set_cons_zero]
            clear hS
            have hS := hHeld
            clear hHeld
            refine' wpAnyH_take (i := 3) ?h1x3ys ?hsx3ys ?hfx3ys ?hrx3ys ?hQx3ys (Or.inl ⟨?hwx3ys, ?hyx3ys⟩) hS ?restx3ys
            case h1x3ys => (simp only [List.getElem?_toArray, List.getElem?_cons_succ, List.getElem?_cons_zero]; rfl)
            case hsx3ys => kernel_rfl
            case hfx3ys => kernel_rfl
            case hrx3ys => kernel_rfl
            case hQx3ys => exact fun _ _ _ h => h
            case hwx3ys => rfl
            case hyx3ys =>
              intro W hW
              go_simp
              try with_reducible rfl
            simp only [Act.put, List.setIfInBounds_toArray, List.set_cons_succ, List.set_cons_zero]
            refine' wpAnyH_take (i := 5) ?h1x5ys ?hsx5ys ?hfx5ys ?hrx5ys ?hQx5ys (Or.inl ⟨?hwx5ys, ?hyx5ys⟩) hS ?restx5ys
            case h1x5ys => (simp only [List.getElem?_toArray, List.getElem?_cons_succ, List.getElem?_cons_zero]; rfl)
            case hsx5ys => kernel_rfl
            case hfx5ys => kernel_rfl
            case hrx5ys => kernel_rfl
            case hQx5ys => exact fun _ _ _ h => h
            case hwx5ys => rfl
            case hyx5ys =>
              intro W hW
              go_simp
              try with_reducible rfl
            simp only [Act.put, List.setIfInBounds_toArray, List.set_cons_succ, List.set_cons_zero]
            refine' wpAnyH_take (i := 6) ?h1x6ys ?hsx6ys ?hfx6ys ?hrx6ys ?hQx6ys (Or.inl ⟨?hwx6ys, ?hyx6ys⟩) hS ?restx6ys
            case h1x6ys => (simp only [List.getElem?_toArray, List.getElem?_cons_succ, List.getElem?_cons_zero]; rfl)
            case hsx6ys => kernel_rfl
            case hfx6ys => kernel_rfl
            case hrx6ys => kernel_rfl
            case hQx6ys => exact fun _ _ _ h => h
            case hwx6ys => rfl
            case hyx6ys =>
              intro W hW
              go_simp
              try with_reducible rfl
            simp only [Act.put, List.setIfInBounds_toArray, List.set_cons_succ, List.set_cons_zero]
            refine' wpAnyH_take (i := 7) ?h1x7ys ?hsx7ys ?hfx7ys ?hrx7ys ?hQx7ys (yieldsIf_load_at ?hwx7ys 31 (.tmp 8) ?hopx7ys w4.heap.size 0 rfl (bcells A) _ (fun W hW => range_row hW.2) Tryd.underlying31 rfl ?hix7ys) hS ?restx7ys
            case h1x7ys => (simp only [List.getElem?_toArray, List.getElem?_cons_succ, List.getElem?_cons_zero]; rfl)
            case hopx7ys => rfl
            case hsx7ys => kernel_rfl
            case hfx7ys => kernel_rfl
            case hrx7ys => kernel_rfl
            case hQx7ys => exact fun _ _ _ h => h
            case hwx7ys => rfl
            case hix7ys => exact iA.out
            simp only [Act.put, List.setIfInBounds_toArray, List.set_cons_succ, List.set_cons_zero]
            refine' wpAnyH_take (i := 8) ?h1x8ys ?hsx8ys ?hfx8ys ?hrx8ys ?hQx8ys (Or.inl ⟨?hwx8ys, ?hyx8ys⟩) hS ?restx8ys
            case h1x8ys => (simp only [List.getElem?_toArray, List.getElem?_cons_succ, List.getElem?_cons_zero]; rfl)
            case hsx8ys => kernel_rfl
            case hfx8ys => kernel_rfl
            case hrx8ys => kernel_rfl
            case hQx8ys => exact fun _ _ _ h => h
            case hwx8ys => rfl
            case hyx8ys =>
              intro W hW
              go_simp
              try with_reducible rfl
            simp only [Act.put, List.setIfInBounds_toArray, List.set_cons_succ, List.set_cons_zero]
            refine' wpAnyH_take (i := 9) ?h1x9ys ?hsx9ys ?hfx9ys ?hrx9ys ?hQx9ys (Or.inl ⟨?hwx9ys, ?hyx9ys⟩) hS ?restx9ys
            case h1x9ys => (simp only [List.getElem?_toArray, List.getElem?_cons_succ, List.getElem?_cons_zero]; rfl)
            case hsx9ys => kernel_rfl
            case hfx9ys => kernel_rfl
            case hrx9ys => kernel_rfl
            case hQx9ys => exact fun _ _ _ h => h
            case hwx9ys => rfl
            case hyx9ys =>
              intro W hW
              go_simp
              try with_reducible rfl
            simp only [Act.put, List.setIfInBounds_toArray, List.set_cons_succ, List.set_cons_zero]
            refine' wpAnyH_take (i := 10) ?h1x10ys ?hsx10ys ?hfx10ys ?hrx10ys ?hQx10ys (Or.inl ⟨?hwx10ys, ?hyx10ys⟩) hS ?restx10ys
            case h1x10ys => (simp only [List.getElem?_toArray, List.getElem?_cons_succ, List.getElem?_cons_zero]; rfl)
            case hsx10ys => kernel_rfl
            case hfx10ys => kernel_rfl
            case hrx10ys => kernel_rfl
            case hQx10ys => exact fun _ _ _ h => h
            case hwx10ys => rfl
            case hyx10ys =>
              intro W hW
              go_simp
              try with_reducible rfl
            simp only [Act.put, List.setIfInBounds_toArray, List.set_cons_succ, List.set_cons_zero]
            refine' wpAnyH_take (i := 11) ?h1x11ys ?hsx11ys ?hfx11ys ?hrx11ys ?hQx11ys (Or.inl ⟨?hwx11ys, ?hyx11ys⟩) hS ?restx11ys
            case h1x11ys => (simp only [List.getElem?_toArray, List.getElem?_cons_succ, List.getElem?_cons_zero]; rfl)
            case hsx11ys => kernel_rfl
            case hfx11ys => kernel_rfl
            case hrx11ys => kernel_rfl
            case hQx11ys => exact fun _ _ _ h => h
            case hwx11ys => rfl
            case hyx11ys =>
              intro W hW
              go_simp
              try with_reducible rfl
            simp only [Act.put, List.setIfInBounds_toArray, List.set_cons_succ, List.set_cons_zero]
            refine' wpAnyH_take (i := 12) ?h1x12ys ?hsx12ys ?hfx12ys ?hrx12ys ?hQx12ys (Or.inl ⟨?hwx12ys, ?hyx12ys⟩) hS ?restx12ys
            case h1x12ys => (simp only [List.getElem?_toArray, List.getElem?_cons_succ, List.getElem?_cons_zero]; rfl)
            case hsx12ys => kernel_rfl
            case hfx12ys => kernel_rfl
            case hrx12ys => kernel_rfl
            case hQx12ys => exact fun _ _ _ h => h
            case hwx12ys => rfl
            case hyx12ys =>
              intro W hW
              go_simp
              try with_reducible rfl
            simp only [Act.put, List.setIfInBounds_toArray, List.set_cons_succ, List.set_cons_zero]
            refine' wpAnyH_take (i := 13) ?h1x13ys ?hsx13ys ?hfx13ys ?hrx13ys ?hQx13ys (Or.inl ⟨?hwx13ys, ?hyx13ys⟩) hS ?restx13ys
            case h1x13ys => (simp only [List.getElem?_toArray, List.getElem?_cons_succ, List.getElem?_cons_zero]; rfl)
            case hsx13ys => kernel_rfl
            case hfx13ys => kernel_rfl
            case hrx13ys => kernel_rfl
            case hQx13ys => exact fun _ _ _ h => h
            case hwx13ys => rfl
            case hyx13ys =>
              intro W hW
              go_simp
              try with_reducible rfl
            simp only [Act.put, List.setIfInBounds_toArray, List.set_cons_succ, List.set_cons_zero]
            refine' wpAnyH_take (i := 14) ?h1x14ys ?hsx14ys ?hfx14ys ?hrx14ys ?hQx14ys (Or.inl ⟨?hwx14ys, ?hyx14ys⟩) hS ?restx14ys
            case h1x14ys => (simp only [List.getElem?_toArray, List.getElem?_cons_succ, List.getElem?_cons_zero]; rfl)
            case hsx14ys => kernel_rfl
            case hfx14ys => kernel_rfl
            case hrx14ys => kernel_rfl
            case hQx14ys => exact fun _ _ _ h => h
            case hwx14ys => rfl
            case hyx14ys =>
              intro W hW
              go_simp
              try with_reducible rfl
            simp only [Act.put, List.setIfInBounds_toArray, List.set_cons_succ, List.set_cons_zero]
            rw [HWR.out]
            refine' wpAnyH_take (i := 15) ?h1x15ys ?hsx15ys ?hfx15ys ?hrx15ys ?hQx15ys (Or.inl ⟨?hwx15ys, ?hyx15ys⟩) hS ?restx15ys
            case h1x15ys => (simp only [List.getElem?_toArray, List.getElem?_cons_succ, List.getElem?_cons_zero]; rfl)
            case hsx15ys => kernel_rfl
            case hfx15ys => kernel_rfl
            case hrx15ys => kernel_rfl
            case hQx15ys => exact fun _ _ _ h => h
            case hwx15ys => rfl
            case hyx15ys =>
              intro W hW
              go_simp
              try with_reducible rfl
            simp only [Act.put, List.setIfInBounds_toArray, List.set_cons_succ, List.set_cons_zero]
            refine' wpAnyH_take (i := 16) ?h1x16ys ?hsx16ys ?hfx16ys ?hrx16ys ?hQx16ys (Or.inl ⟨?hwx16ys, ?hyx16ys⟩) hS ?restx16ys
            case h1x16ys => (simp only [List.getElem?_toArray, List.getElem?_cons_succ, List.getElem?_cons_zero]; rfl)
            case hsx16ys => kernel_rfl
            case hfx16ys => kernel_rfl
            case hrx16ys => kernel_rfl
            case hQx16ys => exact fun _ _ _ h => h
            case hwx16ys => rfl
            case hyx16ys =>
              intro W hW
              have cu := (hW.1.cell (p := ⟨bb, oo + k, none⟩) LBB.out).trans CK.out
              go_simp
              try with_reducible rfl
            simp only [Act.put, List.setIfInBounds_toArray, List.set_cons_succ, List.set_cons_zero]
            refine wpAnyH_ready (rs := [17]) (by kernel_rfl) (by simp) ?_
            refine' AllReadyH.cons ?hoc17ys (fun K hK => ?stc17ys) AllReadyH.nil
            case hoc17ys => (simp only [List.getElem?_toArray, List.getElem?_cons_succ, List.getElem?_cons_zero]; rfl)
            go_simp
            refine (SY.out).mono ?_
            rintro e w6 ⟨rfl, hl6, hm6⟩
            rw [← HB.out]
            have R6 := Lib.hid (RW6.out w6 hm6)
            have F6 := Lib.hid (FIN.out w6 hl6 hm6)
            clear hl6 hm6
            go_wp2_with fail
            refine hK.out _ _ R6.out (fun hHeld => ?_)
            clear hK K
            try simp only [Act.put, List.setIfInBounds_toArray, List.set_cons_succ, List.set_cons_zero]
            clear hS R6
            have hS := hHeld
            clear hHeld
            refine' wpAnyH_take (i := 18) ?h1x18ys ?hsx18ys ?hfx18ys ?hrx18ys ?hQx18ys (Or.inl ⟨?hwx18ys, ?hyx18ys⟩) hS ?restx18ys
            case h1x18ys => (simp only [List.getElem?_toArray, List.getElem?_cons_succ, List.getElem?_cons_zero]; rfl)
            case hsx18ys => kernel_rfl
            case hfx18ys => kernel_rfl
            case hrx18ys => kernel_rfl
            case hQx18ys => exact fun _ _ _ h => h
            case hwx18ys => rfl
            case hyx18ys =>
              intro W hW
              have eq := EQ.out W
              go_simp
              try with_reducible rfl
            simp only [Act.put, List.setIfInBounds_toArray, List.set_cons_succ, List.set_cons_zero]
            refine' wpAnyH_take (i := 19) ?h1x19ys ?hsx19ys ?hfx19ys ?hrx19ys ?hQx19ys (Or.inl ⟨?hwx19ys, ?hyx19ys⟩) hS ?restx19ys
            case h1x19ys => (simp only [List.getElem?_toArray, List.getElem?_cons_succ, List.getElem?_cons_zero]; rfl)
            case hsx19ys => kernel_rfl
            case hfx19ys => kernel_rfl
            case hrx19ys => kernel_rfl
            case hQx19ys => exact fun _ _ _ h => h
            case hwx19ys => rfl
            case hyx19ys =>
              intro W hW
              go_simp
              try with_reducible rfl
            simp only [Act.put, List.setIfInBounds_toArray, List.set_cons_succ, List.set_cons_zero]
            refine' wpAnyH_take (i := 20) ?h1x20ys ?hsx20ys ?hfx20ys ?hrx20ys ?hQx20ys (Or.inr ⟨?hwx20ys, rfl⟩) hS ?restx20ys
            case h1x20ys => (simp only [List.getElem?_toArray, List.getElem?_cons_succ, List.getElem?_cons_zero]; rfl)
            case hsx20ys => kernel_rfl
            case hfx20ys => kernel_rfl
            case hrx20ys => kernel_rfl
            case hQx20ys => exact fun _ _ _ h => h
            case hwx20ys => rfl
            simp only [Act.put, List.setIfInBounds_toArray, List.set_cons_succ, List.set_cons_zero]
            refine' wpAnyH_take (i := 21) ?h1x21ys ?hsx21ys ?hfx21ys ?hrx21ys ?hQx21ys (Or.inr ⟨?hwx21ys, rfl⟩) hS ?restx21ys
            case h1x21ys => (simp only [List.getElem?_toArray, List.getElem?_cons_succ, List.getElem?_cons_zero]; rfl)
            case hsx21ys => kernel_rfl
            case hfx21ys => kernel_rfl
            case hrx21ys => kernel_rfl
            case hQx21ys => exact fun _ _ _ h => h
            case hwx21ys => rfl
            simp only [Act.put, List.setIfInBounds_toArray, List.set_cons_succ, List.set_cons_zero]
            refine' wpAnyH_take (i := 22) ?h1x22ys ?hsx22ys ?hfx22ys ?hrx22ys ?hQx22ys (Or.inr ⟨?hwx22ys, rfl⟩) hS ?restx22ys
            case h1x22ys => (simp only [List.getElem?_toArray, List.getElem?_cons_succ, List.getElem?_cons_zero]; rfl)
            case hsx22ys => kernel_rfl
            case hfx22ys => kernel_rfl
            case hrx22ys => kernel_rfl
            case hQx22ys => exact fun _ _ _ h => h
            case hwx22ys => rfl
            simp only [Act.put, List.setIfInBounds_toArray, List.set_cons_succ, List.set_cons_zero]
            refine' wpAnyH_take (i := 23) ?h1x23ys ?hsx23ys ?hfx23ys ?hrx23ys ?hQx23ys (Or.inr ⟨?hwx23ys, rfl⟩) hS ?restx23ys
            case h1x23ys => (simp only [List.getElem?_toArray, List.getElem?_cons_succ, List.getElem?_cons_zero]; rfl)
            case hsx23ys => kernel_rfl
            case hfx23ys => kernel_rfl
            case hrx23ys => kernel_rfl
            case hQx23ys => exact fun _ _ _ h => h
            case hwx23ys => rfl
            simp only [Act.put, List.setIfInBounds_toArray, List.set_cons_succ, List.set_cons_zero]
            refine' wpAnyH_take (i := 24) ?h1x24ys ?hsx24ys ?hfx24ys ?hrx24ys ?hQx24ys (Or.inr ⟨?hwx24ys, rfl⟩) hS ?restx24ys
            case h1x24ys => (simp only [List.getElem?_toArray, List.getElem?_cons_succ, List.getElem?_cons_zero]; rfl)
            case hsx24ys => kernel_rfl
            case hfx24ys => kernel_rfl
            case hrx24ys => kernel_rfl
            case hQx24ys => exact fun _ _ _ h => h
            case hwx24ys => rfl
            simp only [Act.put, List.setIfInBounds_toArray, List.set_cons_succ, List.set_cons_zero]
            refine' wpAnyH_take (i := 25) ?h1x25ys ?hsx25ys ?hfx25ys ?hrx25ys ?hQx25ys (Or.inr ⟨?hwx25ys, rfl⟩) hS ?restx25ys
            case h1x25ys => (simp only [List.getElem?_toArray, List.getElem?_cons_succ, List.getElem?_cons_zero]; rfl)
            case hsx25ys => kernel_rfl
            case hfx25ys => kernel_rfl
            case hrx25ys => kernel_rfl
            case hQx25ys => exact fun _ _ _ h => h
            case hwx25ys => rfl
            simp only [Act.put, List.setIfInBounds_toArray, List.set_cons_succ, List.set_cons_zero]
            refine' wpAnyH_take (i := 26) ?h1x26ys ?hsx26ys ?hfx26ys ?hrx26ys ?hQx26ys (Or.inr ⟨?hwx26ys, rfl⟩) hS ?restx26ys
            case h1x26ys => (simp only [List.getElem?_toArray, List.getElem?_cons_succ, List.getElem?_cons_zero]; rfl)
            case hsx26ys => kernel_rfl
            case hfx26ys => kernel_rfl
            case hrx26ys => kernel_rfl
            case hQx26ys => exact fun _ _ _ h => h
            case hwx26ys => rfl
            simp only [Act.put, List.setIfInBounds_toArray, List.set_cons_succ, List.set_cons_zero]
            refine' wpAnyH_take (i := 27) ?h1x27ys ?hsx27ys ?hfx27ys ?hrx27ys ?hQx27ys (Or.inr ⟨?hwx27ys, rfl⟩) hS ?restx27ys
            case h1x27ys => (simp only [List.getElem?_toArray, List.getElem?_cons_succ, List.getElem?_cons_zero]; rfl)
            case hsx27ys => kernel_rfl
            case hfx27ys => kernel_rfl
            case hrx27ys => kernel_rfl
            case hQx27ys => exact fun _ _ _ h => h
            case hwx27ys => rfl
            simp only [Act.put, List.setIfInBounds_toArray, List.set_cons_succ, List.set_cons_zero]
            refine' wpAnyH_take (i := 28) ?h1x28ys ?hsx28ys ?hfx28ys ?hrx28ys ?hQx28ys (Or.inr ⟨?hwx28ys, rfl⟩) hS ?restx28ys
            case h1x28ys => (simp only [List.getElem?_toArray, List.getElem?_cons_succ, List.getElem?_cons_zero]; rfl)
            case hsx28ys => kernel_rfl
            case hfx28ys => kernel_rfl
            case hrx28ys => kernel_rfl
            case hQx28ys => exact fun _ _ _ h => h
            case hwx28ys => rfl
            simp only [Act.put, List.setIfInBounds_toArray, List.set_cons_succ, List.set_cons_zero]
            refine' wpAnyH_take (i := 29) ?h1x29ys ?hsx29ys ?hfx29ys ?hrx29ys ?hQx29ys (Or.inr ⟨?hwx29ys, rfl⟩) hS ?restx29ys
            case h1x29ys => (simp only [List.getElem?_toArray, List.getElem?_cons_succ, List.getElem?_cons_zero]; rfl)
            case hsx29ys => kernel_rfl
            case hfx29ys => kernel_rfl
            case hrx29ys => kernel_rfl
            case hQx29ys => exact fun _ _ _ h => h
            case hwx29ys => rfl
            simp only [Act.put, List.setIfInBounds_toArray, List.set_cons_succ, List.set_cons_zero]
            refine' wpAnyH_take (i := 30) ?h1x30ys ?hsx30ys ?hfx30ys ?hrx30ys ?hQx30ys (Or.inr ⟨?hwx30ys, rfl⟩) hS ?restx30ys
            case h1x30ys => (simp only [List.getElem?_toArray, List.getElem?_cons_succ, List.getElem?_cons_zero]; rfl)
            case hsx30ys => kernel_rfl
            case hfx30ys => kernel_rfl
            case hrx30ys => kernel_rfl
            case hQx30ys => exact fun _ _ _ h => h
            case hwx30ys => rfl
            simp only [Act.put, List.setIfInBounds_toArray, List.set_cons_succ, List.set_cons_zero]
            refine' wpAnyH_take (i := 31) ?h1x31ys ?hsx31ys ?hfx31ys ?hrx31ys ?hQx31ys (Or.inr ⟨?hwx31ys, rfl⟩) hS ?restx31ys
            case h1x31ys => (simp only [List.getElem?_toArray, List.getElem?_cons_succ, List.getElem?_cons_zero]; rfl)
            case hsx31ys => kernel_rfl
            case hfx31ys => kernel_rfl
            case hrx31ys => kernel_rfl
            case hQx31ys => exact fun _ _ _ h => h
            case hwx31ys => rfl
            simp only [Act.put, List.setIfInBounds_toArray, List.set_cons_succ, List.set_cons_zero]
            refine' wpAnyH_take (i := 32) ?h1x32ys ?hsx32ys ?hfx32ys ?hrx32ys ?hQx32ys (Or.inr ⟨?hwx32ys, rfl⟩) hS ?restx32ys
            case h1x32ys => (simp only [List.getElem?_toArray, List.getElem?_cons_succ, List.getElem?_cons_zero]; rfl)
            case hsx32ys => kernel_rfl
            case hfx32ys => kernel_rfl
            case hrx32ys => kernel_rfl
            case hQx32ys => exact fun _ _ _ h => h
            case hwx32ys => rfl
            simp only [Act.put, List.setIfInBounds_toArray, List.set_cons_succ, List.set_cons_zero]
            refine' wpAnyH_take (i := 33) ?h1x33ys ?hsx33ys ?hfx33ys ?hrx33ys ?hQx33ys (Or.inr ⟨?hwx33ys, rfl⟩) hS ?restx33ys
            case h1x33ys => (simp only [List.getElem?_toArray, List.getElem?_cons_succ, List.getElem?_cons_zero]; rfl)
            case hsx33ys => kernel_rfl
            case hfx33ys => kernel_rfl
            case hrx33ys => kernel_rfl
            case hQx33ys => exact fun _ _ _ h => h
            case hwx33ys => rfl
            simp only [Act.put, List.setIfInBounds_toArray, List.set_cons_succ, List.set_cons_zero]
            refine' wpAnyH_take (i := 34) ?h1x34ys ?hsx34ys ?hfx34ys ?hrx34ys ?hQx34ys (Or.inr ⟨?hwx34ys, rfl⟩) hS ?restx34ys
            case h1x34ys => (simp only [List.getElem?_toArray, List.getElem?_cons_succ, List.getElem?_cons_zero]; rfl)
            case hsx34ys => kernel_rfl
            case hfx34ys => kernel_rfl
            case hrx34ys => kernel_rfl
            case hQx34ys => exact fun _ _ _ h => h
            case hwx34ys => rfl
            simp only [Act.put, List.setIfInBounds_toArray, List.set_cons_succ, List.set_cons_zero]
            refine' wpAnyH_take (i := 35) ?h1x35ys ?hsx35ys ?hfx35ys ?hrx35ys ?hQx35ys (Or.inl ⟨?hwx35ys, ?hyx35ys⟩) hS ?restx35ys
            case h1x35ys => (simp only [List.getElem?_toArray, List.getElem?_cons_succ, List.getElem?_cons_zero]; rfl)
            case hsx35ys => kernel_rfl
            case hfx35ys => kernel_rfl
            case hrx35ys => kernel_rfl
            case hQx35ys => exact fun _ _ _ h => h
            case hwx35ys => rfl
            case hyx35ys =>
              intro W hW
              go_simp
              try with_reducible rfl
            simp only [Act.put, List.setIfInBounds_toArray, List.set_cons_succ, List.set_cons_zero]
            refine' wpAnyH_take (i := 36) ?h1x36ys ?hsx36ys ?hfx36ys ?hrx36ys ?hQx36ys (Or.inl ⟨?hwx36ys, ?hyx36ys⟩) hS ?restx36ys
            case h1x36ys => (simp only [List.getElem?_toArray, List.getElem?_cons_succ, List.getElem?_cons_zero]; rfl)
            case hsx36ys => kernel_rfl
            case hfx36ys => kernel_rfl
            case hrx36ys => kernel_rfl
            case hQx36ys => exact fun _ _ _ h => h
            case hwx36ys => rfl
            case hyx36ys =>
              intro W hW
              go_simp
              try with_reducible rfl
            simp only [Act.put, List.setIfInBounds_toArray, List.set_cons_succ, List.set_cons_zero]
            refine wpAnyH_done (by kernel_rfl) ?_ _
            clear hS
            go_wp2_with fail
            go_roundw
            case rel => exact ⟨i + 1, S5, _, by omega, by go_num, by rw [AX.out]; exact F6.out.1, by rw [AY.out]; exact F6.out.2.1, NS5.out, F6.out.2.2.1, F6.out.2.2.2.1, F6.out.2.2.2.2⟩
            case measure => simp [intOf]; omega
          · have EQ : Hid (∀ W : World, (Op.equalIn 10000 31 (.agg (bcells A)) (.agg (bcells B))).run Tryd.prog W = .ok false W) := fun W => by rw [EQ0.out W, decide_eq_false hAB]
            have SQ := Lib.hid (SQ0.out hAB)
            clear hAB EQ0 SQ0
            refine wp_region_held_drew (S := fun W => Below w.heap.size w W ∧ W.heap[w4.heap.size]? = some (.cells (bcells A) 31 (0, 0))) (by kernel_rfl) ⟨B5.out.drew, R5.out⟩ (fun hS => ?_)
            refine' wpAnyH_take (i := 0) ?h1x0yd ?hsx0yd ?hfx0yd ?hrx0yd ?hQx0yd (Or.inl ⟨?hwx0yd, ?hyx0yd⟩) hS ?restx0yd
            case h1x0yd => (simp only [List.getElem?_toArray, List.getElem?_cons_zero]; rfl)
            case hsx0yd => kernel_rfl
            case hfx0yd => kernel_rfl
            case hrx0yd => kernel_rfl
            case hQx0yd => exact fun _ _ _ h => h
            case hwx0yd => rfl
            case hyx0yd =>
              intro W hW
              go_simp
              try with_reducible rfl
            simp only [Act.put, List.setIfInBounds_toArray, List.set_cons_succ, List.set_cons_zero]
            refine' wpAnyH_take (i := 2) ?h1x2yd ?hsx2yd ?hfx2yd ?hrx2yd ?hQx2yd (Or.inl ⟨?hwx2yd, ?hyx2yd⟩) hS ?restx2yd
            case h1x2yd => (simp only [List.getElem?_toArray, List.getElem?_cons_succ, List.getElem?_cons_zero]; rfl)
            case hsx2yd => kernel_rfl
            case hfx2yd => kernel_rfl
            case hrx2yd => kernel_rfl
            case hQx2yd => exact fun _ _ _ h => h
            case hwx2yd => rfl
            case hyx2yd =>
              intro W hW
              go_simp
              try with_reducible rfl
            simp only [Act.put, List.setIfInBounds_toArray, List.set_cons_succ, List.set_cons_zero]
            refine' wpAnyH_take (i := 4) ?h1x4yd ?hsx4yd ?hfx4yd ?hrx4yd ?hQx4yd (Or.inl ⟨?hwx4yd, ?hyx4yd⟩) hS ?restx4yd
            case h1x4yd => (simp only [List.getElem?_toArray, List.getElem?_cons_succ, List.getElem?_cons_zero]; rfl)
            case hsx4yd => kernel_rfl
            case hfx4yd => kernel_rfl
            case hrx4yd => kernel_rfl
            case hQx4yd => exact fun _ _ _ h => h
            case hwx4yd => rfl
            case hyx4yd =>
              intro W hW
              go_simp
              try with_reducible rfl
            simp only [Act.put, List.setIfInBounds_toArray, List.set_cons_succ, List.set_cons_zero]
            refine wpAnyH_ready (rs := [1]) (by kernel_rfl) (by simp) ?_
            refine' AllReadyH.cons ?hoc1yd (fun K hK => ?stc1yd) AllReadyH.nil
            case hoc1yd => (simp only [List.getElem?_toArray, List.getElem?_cons_succ, List.getElem?_cons_zero]; rfl)
            go_simp
            refine (CN.out).mono ?_
            rintro e w' ⟨rfl, rfl⟩
            go_wp2_with fail
            refine hK.out _ _ hS (fun hHeld => ?_)
            clear hK K
            try simp only [Act.put, List.setIfInBounds_toArray, List.set_cons_succ, List.set_cons_zero]
            clear hS
            have hS := hHeld
            clear hHeld
            refine' wpAnyH_take (i := 3) ?h1x3yd ?hsx3yd ?hfx3yd ?hrx3yd ?hQx3yd (Or.inl ⟨?hwx3yd, ?hyx3yd⟩) hS ?restx3yd
            case h1x3yd => (simp only [List.getElem?_toArray, List.getElem?_cons_succ, List.getElem?_cons_zero]; rfl)
            case hsx3yd => kernel_rfl
            case hfx3yd => kernel_rfl
            case hrx3yd => kernel_rfl
            case hQx3yd => exact fun _ _ _ h => h
            case hwx3yd => rfl
            case hyx3yd =>
              intro W hW
              go_simp
              try with_reducible rfl
            simp only [Act.put, List.setIfInBounds_toArray, List.set_cons_succ, List.set_cons_zero]
            refine' wpAnyH_take (i := 5) ?h1x5yd ?hsx5yd ?hfx5yd ?hrx5yd ?hQx5yd (Or.inl ⟨?hwx5yd, ?hyx5yd⟩) hS ?restx5yd
            case h1x5yd => (simp only [List.getElem?_toArray, List.getElem?_cons_succ, List.getElem?_cons_zero]; rfl)
            case hsx5yd => kernel_rfl
            case hfx5yd => kernel_rfl
            case hrx5yd => kernel_rfl
            case hQx5yd => exact fun _ _ _ h => h
            case hwx5yd => rfl
            case hyx5yd =>
              intro W hW
              go_simp
              try with_reducible rfl
            simp only [Act.put, List.setIfInBounds_toArray, List.set_cons_succ, List.set_cons_zero]
            refine' wpAnyH_take (i := 6) ?h1x6yd ?hsx6yd ?hfx6yd ?hrx6yd ?hQx6yd (Or.inl ⟨?hwx6yd, ?hyx6yd⟩) hS ?restx6yd
            case h1x6yd => (simp only [List.getElem?_toArray, List.getElem?_cons_succ, List.getElem?_cons_zero]; rfl)
            case hsx6yd => kernel_rfl
            case hfx6yd => kernel_rfl
            case hrx6yd => kernel_rfl
            case hQx6yd => exact fun _ _ _ h => h
            case hwx6yd => rfl
            case hyx6yd =>
              intro W hW
              go_simp
              try with_reducible rfl
            simp only [Act.put, List.setIfInBounds_toArray, List.set_cons_succ, List.set_cons_zero]
            refine' wpAnyH_take (i := 7) ?h1x7yd ?hsx7yd ?hfx7yd ?hrx7yd ?hQx7yd (yieldsIf_load_at ?hwx7yd 31 (.tmp 8) ?hopx7yd w4.heap.size 0 rfl (bcells A) _ (fun W hW => range_row hW.2) Tryd.underlying31 rfl ?hix7yd) hS ?restx7yd
            case h1x7yd => (simp only [List.getElem?_toArray, List.getElem?_cons_succ, List.getElem?_cons_zero]; rfl)
            case hopx7yd => rfl
            case hsx7yd => kernel_rfl
            case hfx7yd => kernel_rfl
            case hrx7yd => kernel_rfl
            case hQx7yd => exact fun _ _ _ h => h
            case hwx7yd => rfl
            case hix7yd => exact iA.out
            simp only [Act.put, List.setIfInBounds_toArray, List.set_cons_succ, List.set_cons_zero]
            refine' wpAnyH_take (i := 8) ?h1x8yd ?hsx8yd ?hfx8yd ?hrx8yd ?hQx8yd (Or.inl ⟨?hwx8yd, ?hyx8yd⟩) hS ?restx8yd
            case h1x8yd => (simp only [List.getElem?_toArray, List.getElem?_cons_succ, List.getElem?_cons_zero]; rfl)
            case hsx8yd => kernel_rfl
            case hfx8yd => kernel_rfl
            case hrx8yd => kernel_rfl
            case hQx8yd => exact fun _ _ _ h => h
            case hwx8yd => rfl
            case hyx8yd =>
              intro W hW
              go_simp
              try with_reducible rfl
            simp only [Act.put, List.setIfInBounds_toArray, List.set_cons_succ, List.set_cons_zero]
            refine' wpAnyH_take (i := 9) ?h1x9yd ?hsx9yd ?hfx9yd ?hrx9yd ?hQx9yd (Or.inl ⟨?hwx9yd, ?hyx9yd⟩) hS ?restx9yd
            case h1x9yd => (simp only [List.getElem?_toArray, List.getElem?_cons_succ, List.getElem?_cons_zero]; rfl)
            case hsx9yd => kernel_rfl
            case hfx9yd => kernel_rfl
            case hrx9yd => kernel_rfl
            case hQx9yd => exact fun _ _ _ h => h
            case hwx9yd => rfl
            case hyx9yd =>
              intro W hW
              go_simp
              try with_reducible rfl
            simp only [Act.put, List.setIfInBounds_toArray, List.set_cons_succ, List.set_cons_zero]
            refine' wpAnyH_take (i := 10) ?h1x10yd ?hsx10yd ?hfx10yd ?hrx10yd ?hQx10yd (Or.inl ⟨?hwx10yd, ?hyx10yd⟩) hS ?restx10yd
            case h1x10yd => (simp only [List.getElem?_toArray, List.getElem?_cons_succ, List.getElem?_cons_zero]; rfl)
            case hsx10yd => kernel_rfl
            case hfx10yd => kernel_rfl
            case hrx10yd => kernel_rfl
            case hQx10yd => exact fun _ _ _ h => h
            case hwx10yd => rfl
            case hyx10yd =>
              intro W hW
              go_simp
              try with_reducible rfl
            simp only [Act.put, List.setIfInBounds_toArray, List.set_cons_succ, List.set_cons_zero]
            refine' wpAnyH_take (i := 11) ?h1x11yd ?hsx11yd ?hfx11yd ?hrx11yd ?hQx11yd (Or.inl ⟨?hwx11yd, ?hyx11yd⟩) hS ?restx11yd
            case h1x11yd => (simp only [List.getElem?_toArray, List.getElem?_cons_succ, List.getElem?_cons_zero]; rfl)
            case hsx11yd => kernel_rfl
            case hfx11yd => kernel_rfl
            case hrx11yd => kernel_rfl
            case hQx11yd => exact fun _ _ _ h => h
            case hwx11yd => rfl
            case hyx11yd =>
              intro W hW
              go_simp
              try with_reducible rfl
            simp only [Act.put, List.setIfInBounds_toArray, List.set_cons_succ, List.set_cons_zero]
            refine' wpAnyH_take (i := 12) ?h1x12yd ?hsx12yd ?hfx12yd ?hrx12yd ?hQx12yd (Or.inl ⟨?hwx12yd, ?hyx12yd⟩) hS ?restx12yd
            case h1x12yd => (simp only [List.getElem?_toArray, List.getElem?_cons_succ, List.getElem?_cons_zero]; rfl)
            case hsx12yd => kernel_rfl
            case hfx12yd => kernel_rfl
            case hrx12yd => kernel_rfl
            case hQx12yd => exact fun _ _ _ h => h
            case hwx12yd => rfl
            case hyx12yd =>
              intro W hW
              go_simp
              try with_reducible rfl
            simp only [Act.put, List.setIfInBounds_toArray, List.set_cons_succ, List.set_cons_zero]
            refine' wpAnyH_take (i := 13) ?h1x13yd ?hsx13yd ?hfx13yd ?hrx13yd ?hQx13yd (Or.inl ⟨?hwx13yd, ?hyx13yd⟩) hS ?restx13yd
            case h1x13yd => (simp only [List.getElem?_toArray, List.getElem?_cons_succ, List.getElem?_cons_zero]; rfl)
            case hsx13yd => kernel_rfl
            case hfx13yd => kernel_rfl
            case hrx13yd => kernel_rfl
            case hQx13yd => exact fun _ _ _ h => h
            case hwx13yd => rfl
            case hyx13yd =>
              intro W hW
              go_simp
              try with_reducible rfl
            simp only [Act.put, List.setIfInBounds_toArray, List.set_cons_succ, List.set_cons_zero]
            refine' wpAnyH_take (i := 14) ?h1x14yd ?hsx14yd ?hfx14yd ?hrx14yd ?hQx14yd (Or.inl ⟨?hwx14yd, ?hyx14yd⟩) hS ?restx14yd
            case h1x14yd => (simp only [List.getElem?_toArray, List.getElem?_cons_succ, List.getElem?_cons_zero]; rfl)
            case hsx14yd => kernel_rfl
            case hfx14yd => kernel_rfl
            case hrx14yd => kernel_rfl
            case hQx14yd => exact fun _ _ _ h => h
            case hwx14yd => rfl
            case hyx14yd =>
              intro W hW
              go_simp
              try with_reducible rfl
            simp only [Act.put, List.setIfInBounds_toArray, List.set_cons_succ, List.set_cons_zero]
            rw [HWR.out]
            refine' wpAnyH_take (i := 15) ?h1x15yd ?hsx15yd ?hfx15yd ?hrx15yd ?hQx15yd (Or.inl ⟨?hwx15yd, ?hyx15yd⟩) hS ?restx15yd
            case h1x15yd => (simp only [List.getElem?_toArray, List.getElem?_cons_succ, List.getElem?_cons_zero]; rfl)
            case hsx15yd => kernel_rfl
            case hfx15yd => kernel_rfl
            case hrx15yd => kernel_rfl
            case hQx15yd => exact fun _ _ _ h => h
            case hwx15yd => rfl
            case hyx15yd =>
              intro W hW
              go_simp
              try with_reducible rfl
            simp only [Act.put, List.setIfInBounds_toArray, List.set_cons_succ, List.set_cons_zero]
            refine' wpAnyH_take (i := 16) ?h1x16yd ?hsx16yd ?hfx16yd ?hrx16yd ?hQx16yd (Or.inl ⟨?hwx16yd, ?hyx16yd⟩) hS ?restx16yd
            case h1x16yd => (simp only [List.getElem?_toArray, List.getElem?_cons_succ, List.getElem?_cons_zero]; rfl)
            case hsx16yd => kernel_rfl
            case hfx16yd => kernel_rfl
            case hrx16yd => kernel_rfl
            case hQx16yd => exact fun _ _ _ h => h
            case hwx16yd => rfl
            case hyx16yd =>
              intro W hW
              have cu := (hW.1.cell (p := ⟨bb, oo + k, none⟩) LBB.out).trans CK.out
              go_simp
              try with_reducible rfl
            simp only [Act.put, List.setIfInBounds_toArray, List.set_cons_succ, List.set_cons_zero]
            refine wpAnyH_ready (rs := [17]) (by kernel_rfl) (by simp) ?_
            refine' AllReadyH.cons ?hoc17yd (fun K hK => ?stc17yd) AllReadyH.nil
            case hoc17yd => (simp only [List.getElem?_toArray, List.getElem?_cons_succ, List.getElem?_cons_zero]; rfl)
            go_simp
            refine (SY.out).mono ?_
            rintro e w6 ⟨rfl, hl6, hm6⟩
            rw [← HB.out]
            have R6 := Lib.hid (RW6.out w6 hm6)
            have F6 := Lib.hid (FIN.out w6 hl6 hm6)
            clear hl6 hm6
            go_wp2_with fail
            refine hK.out _ _ R6.out (fun hHeld => ?_)
            clear hK K
            try simp only [Act.put, List.setIfInBounds_toArray, List.set_cons_succ, List.set_cons_zero]
            clear hS R6
            have hS := hHeld
            clear hHeld
            refine' wpAnyH_take (i := 18) ?h1x18yd ?hsx18yd ?hfx18yd ?hrx18yd ?hQx18yd (Or.inl ⟨?hwx18yd, ?hyx18yd⟩) hS ?restx18yd
            case h1x18yd => (simp only [List.getElem?_toArray, List.getElem?_cons_succ, List.getElem?_cons_zero]; rfl)
            case hsx18yd => kernel_rfl
            case hfx18yd => kernel_rfl
            case hrx18yd => kernel_rfl
            case hQx18yd => exact fun _ _ _ h => h
            case hwx18yd => rfl
            case hyx18yd =>
              intro W hW
              have eq := EQ.out W
              go_simp
              try with_reducible rfl
            simp only [Act.put, List.setIfInBounds_toArray, List.set_cons_succ, List.set_cons_zero]
            refine' wpAnyH_take (i := 19) ?h1x19yd ?hsx19yd ?hfx19yd ?hrx19yd ?hQx19yd (Or.inl ⟨?hwx19yd, ?hyx19yd⟩) hS ?restx19yd
            case h1x19yd => (simp only [List.getElem?_toArray, List.getElem?_cons_succ, List.getElem?_cons_zero]; rfl)
            case hsx19yd => kernel_rfl
            case hfx19yd => kernel_rfl
            case hrx19yd => kernel_rfl
            case hQx19yd => exact fun _ _ _ h => h
            case hwx19yd => rfl
            case hyx19yd =>
              intro W hW
              go_simp
              try with_reducible rfl
            simp only [Act.put, List.setIfInBounds_toArray, List.set_cons_succ, List.set_cons_zero]
            refine' wpAnyH_take (i := 20) ?h1x20yd ?hsx20yd ?hfx20yd ?hrx20yd ?hQx20yd (Or.inl ⟨?hwx20yd, ?hyx20yd⟩) hS ?restx20yd
            case h1x20yd => (simp only [List.getElem?_toArray, List.getElem?_cons_succ, List.getElem?_cons_zero]; rfl)
            case hsx20yd => kernel_rfl
            case hfx20yd => kernel_rfl
            case hrx20yd => kernel_rfl
            case hQx20yd => exact fun _ _ _ h => h
            case hwx20yd => rfl
            case hyx20yd =>
              intro W hW
              go_simp
              try with_reducible rfl
            simp only [Act.put, List.setIfInBounds_toArray, List.set_cons_succ, List.set_cons_zero]
            refine' wpAnyH_take (i := 21) ?h1x21yd ?hsx21yd ?hfx21yd ?hrx21yd ?hQx21yd (Or.inl ⟨?hwx21yd, ?hyx21yd⟩) hS ?restx21yd
            case h1x21yd => (simp only [List.getElem?_toArray, List.getElem?_cons_succ, List.getElem?_cons_zero]; rfl)
            case hsx21yd => kernel_rfl
            case hfx21yd => kernel_rfl
            case hrx21yd => kernel_rfl
            case hQx21yd => exact fun _ _ _ h => h
            case hwx21yd => rfl
            case hyx21yd =>
              intro W hW
              go_simp
              try with_reducible rfl
            simp only [Act.put, List.setIfInBounds_toArray, List.set_cons_succ, List.set_cons_zero]
            refine' wpAnyH_take (i := 22) ?h1x22yd ?hsx22yd ?hfx22yd ?hrx22yd ?hQx22yd (Or.inl ⟨?hwx22yd, ?hyx22yd⟩) hS ?restx22yd
            case h1x22yd => (simp only [List.getElem?_toArray, List.getElem?_cons_succ, List.getElem?_cons_zero]; rfl)
            case hsx22yd => kernel_rfl
            case hfx22yd => kernel_rfl
            case hrx22yd => kernel_rfl
            case hQx22yd => exact fun _ _ _ h => h
            case hwx22yd => rfl
            case hyx22yd =>
              intro W hW
              go_simp
              try with_reducible rfl
            simp only [Act.put, List.setIfInBounds_toArray, List.set_cons_succ, List.set_cons_zero]
            refine' wpAnyH_take (i := 23) ?h1x23yd ?hsx23yd ?hfx23yd ?hrx23yd ?hQx23yd (Or.inl ⟨?hwx23yd, ?hyx23yd⟩) hS ?restx23yd
            case h1x23yd => (simp only [List.getElem?_toArray, List.getElem?_cons_succ, List.getElem?_cons_zero]; rfl)
            case hsx23yd => kernel_rfl
            case hfx23yd => kernel_rfl
            case hrx23yd => kernel_rfl
            case hQx23yd => exact fun _ _ _ h => h
            case hwx23yd => rfl
            case hyx23yd =>
              intro W hW
              have cu := (hW.1.cell (p := ⟨bb, oo + i, none⟩) LBB.out).trans CI.out
              go_simp
              try with_reducible rfl
            simp only [Act.put, List.setIfInBounds_toArray, List.set_cons_succ, List.set_cons_zero]
            refine' wpAnyH_take (i := 24) ?h1x24yd ?hsx24yd ?hfx24yd ?hrx24yd ?hQx24yd (Or.inl ⟨?hwx24yd, ?hyx24yd⟩) hS ?restx24yd
            case h1x24yd => (simp only [List.getElem?_toArray, List.getElem?_cons_succ, List.getElem?_cons_zero]; rfl)
            case hsx24yd => kernel_rfl
            case hfx24yd => kernel_rfl
            case hrx24yd => kernel_rfl
            case hQx24yd => exact fun _ _ _ h => h
            case hwx24yd => rfl
            case hyx24yd =>
              intro W hW
              have st := (HSUX.out.below hW.1).str
              go_simp
              try with_reducible rfl
            simp only [Act.put, List.setIfInBounds_toArray, List.set_cons_succ, List.set_cons_zero]
            refine' wpAnyH_take (i := 25) ?h1x25yd ?hsx25yd ?hfx25yd ?hrx25yd ?hQx25yd (Or.inl ⟨?hwx25yd, ?hyx25yd⟩) hS ?restx25yd
            case h1x25yd => (simp only [List.getElem?_toArray, List.getElem?_cons_succ, List.getElem?_cons_zero]; rfl)
            case hsx25yd => kernel_rfl
            case hfx25yd => kernel_rfl
            case hrx25yd => kernel_rfl
            case hQx25yd => exact fun _ _ _ h => h
            case hwx25yd => rfl
            case hyx25yd =>
              intro W hW
              go_simp
              try with_reducible rfl
            simp only [Act.put, List.setIfInBounds_toArray, List.set_cons_succ, List.set_cons_zero]
            refine' wpAnyH_take (i := 26) ?h1x26yd ?hsx26yd ?hfx26yd ?hrx26yd ?hQx26yd (Or.inl ⟨?hwx26yd, ?hyx26yd⟩) hS ?restx26yd
            case h1x26yd => (simp only [List.getElem?_toArray, List.getElem?_cons_succ, List.getElem?_cons_zero]; rfl)
            case hsx26yd => kernel_rfl
            case hfx26yd => kernel_rfl
            case hrx26yd => kernel_rfl
            case hQx26yd => exact fun _ _ _ h => h
            case hwx26yd => rfl
            case hyx26yd =>
              intro W hW
              go_simp
              try with_reducible rfl
            simp only [Act.put, List.setIfInBounds_toArray, List.set_cons_succ, List.set_cons_zero]
            refine' wpAnyH_take (i := 27) ?h1x27yd ?hsx27yd ?hfx27yd ?hrx27yd ?hQx27yd (Or.inl ⟨?hwx27yd, ?hyx27yd⟩) hS ?restx27yd
            case h1x27yd => (simp only [List.getElem?_toArray, List.getElem?_cons_succ, List.getElem?_cons_zero]; rfl)
            case hsx27yd => kernel_rfl
            case hfx27yd => kernel_rfl
            case hrx27yd => kernel_rfl
            case hQx27yd => exact fun _ _ _ h => h
            case hwx27yd => rfl
            case hyx27yd =>
              intro W hW
              go_simp
              try with_reducible rfl
            simp only [Act.put, List.setIfInBounds_toArray, List.set_cons_succ, List.set_cons_zero]
            refine' wpAnyH_take (i := 28) ?h1x28yd ?hsx28yd ?hfx28yd ?hrx28yd ?hQx28yd (Or.inl ⟨?hwx28yd, ?hyx28yd⟩) hS ?restx28yd
            case h1x28yd => (simp only [List.getElem?_toArray, List.getElem?_cons_succ, List.getElem?_cons_zero]; rfl)
            case hsx28yd => kernel_rfl
            case hfx28yd => kernel_rfl
            case hrx28yd => kernel_rfl
            case hQx28yd => exact fun _ _ _ h => h
            case hwx28yd => rfl
            case hyx28yd =>
              intro W hW
              go_simp
              try with_reducible rfl
            simp only [Act.put, List.setIfInBounds_toArray, List.set_cons_succ, List.set_cons_zero]
            refine' wpAnyH_take (i := 29) ?h1x29yd ?hsx29yd ?hfx29yd ?hrx29yd ?hQx29yd (Or.inl ⟨?hwx29yd, ?hyx29yd⟩) hS ?restx29yd
            case h1x29yd => (simp only [List.getElem?_toArray, List.getElem?_cons_succ, List.getElem?_cons_zero]; rfl)
            case hsx29yd => kernel_rfl
            case hfx29yd => kernel_rfl
            case hrx29yd => kernel_rfl
            case hQx29yd => exact fun _ _ _ h => h
            case hwx29yd => rfl
            case hyx29yd =>
              intro W hW
              go_simp
              try with_reducible rfl
            simp only [Act.put, List.setIfInBounds_toArray, List.set_cons_succ, List.set_cons_zero]
            refine' wpAnyH_take (i := 30) ?h1x30yd ?hsx30yd ?hfx30yd ?hrx30yd ?hQx30yd (Or.inl ⟨?hwx30yd, ?hyx30yd⟩) hS ?restx30yd
            case h1x30yd => (simp only [List.getElem?_toArray, List.getElem?_cons_succ, List.getElem?_cons_zero]; rfl)
            case hsx30yd => kernel_rfl
            case hfx30yd => kernel_rfl
            case hrx30yd => kernel_rfl
            case hQx30yd => exact fun _ _ _ h => h
            case hwx30yd => rfl
            case hyx30yd =>
              intro W hW
              go_simp
              try with_reducible rfl
            simp only [Act.put, List.setIfInBounds_toArray, List.set_cons_succ, List.set_cons_zero]
            rw [HWR.out]
            refine' wpAnyH_take (i := 31) ?h1x31yd ?hsx31yd ?hfx31yd ?hrx31yd ?hQx31yd (Or.inl ⟨?hwx31yd, ?hyx31yd⟩) hS ?restx31yd
            case h1x31yd => (simp only [List.getElem?_toArray, List.getElem?_cons_succ, List.getElem?_cons_zero]; rfl)
            case hsx31yd => kernel_rfl
            case hfx31yd => kernel_rfl
            case hrx31yd => kernel_rfl
            case hQx31yd => exact fun _ _ _ h => h
            case hwx31yd => rfl
            case hyx31yd =>
              intro W hW
              go_simp
              try with_reducible rfl
            simp only [Act.put, List.setIfInBounds_toArray, List.set_cons_succ, List.set_cons_zero]
            refine' wpAnyH_take (i := 32) ?h1x32yd ?hsx32yd ?hfx32yd ?hrx32yd ?hQx32yd (Or.inl ⟨?hwx32yd, ?hyx32yd⟩) hS ?restx32yd
            case h1x32yd => (simp only [List.getElem?_toArray, List.getElem?_cons_succ, List.getElem?_cons_zero]; rfl)
            case hsx32yd => kernel_rfl
            case hfx32yd => kernel_rfl
            case hrx32yd => kernel_rfl
            case hQx32yd => exact fun _ _ _ h => h
            case hwx32yd => rfl
            case hyx32yd =>
              intro W hW
              have cu := (hW.1.cell (p := ⟨bb, oo + k, none⟩) LBB.out).trans CK.out
              go_simp
              try with_reducible rfl
            simp only [Act.put, List.setIfInBounds_toArray, List.set_cons_succ, List.set_cons_zero]
            refine' wpAnyH_take (i := 33) ?h1x33yd ?hsx33yd ?hfx33yd ?hrx33yd ?hQx33yd (Or.inl ⟨?hwx33yd, ?hyx33yd⟩) hS ?restx33yd
            case h1x33yd => (simp only [List.getElem?_toArray, List.getElem?_cons_succ, List.getElem?_cons_zero]; rfl)
            case hsx33yd => kernel_rfl
            case hfx33yd => kernel_rfl
            case hrx33yd => kernel_rfl
            case hQx33yd => exact fun _ _ _ h => h
            case hwx33yd => rfl
            case hyx33yd =>
              intro W hW
              have st := (HSUK.out.below hW.1).str
              go_simp
              try with_reducible rfl
            simp only [Act.put, List.setIfInBounds_toArray, List.set_cons_succ, List.set_cons_zero]
            refine' wpAnyH_take (i := 34) ?h1x34yd ?hsx34yd ?hfx34yd ?hrx34yd ?hQx34yd (Or.inl ⟨?hwx34yd, ?hyx34yd⟩) hS ?restx34yd
            case h1x34yd => (simp only [List.getElem?_toArray, List.getElem?_cons_succ, List.getElem?_cons_zero]; rfl)
            case hsx34yd => kernel_rfl
            case hfx34yd => kernel_rfl
            case hrx34yd => kernel_rfl
            case hQx34yd => exact fun _ _ _ h => h
            case hwx34yd => rfl
            case hyx34yd =>
              intro W hW
              have sq := SQ.out
              go_simp
              try with_reducible rfl
            simp only [Act.put, List.setIfInBounds_toArray, List.set_cons_succ, List.set_cons_zero]
            refine' wpAnyH_take (i := 35) ?h1x35yd ?hsx35yd ?hfx35yd ?hrx35yd ?hQx35yd (Or.inl ⟨?hwx35yd, ?hyx35yd⟩) hS ?restx35yd
            case h1x35yd => (simp only [List.getElem?_toArray, List.getElem?_cons_succ, List.getElem?_cons_zero]; rfl)
            case hsx35yd => kernel_rfl
            case hfx35yd => kernel_rfl
            case hrx35yd => kernel_rfl
            case hQx35yd => exact fun _ _ _ h => h
            case hwx35yd => rfl
            case hyx35yd =>
              intro W hW
              go_simp
              try with_reducible rfl
            simp only [Act.put, List.setIfInBounds_toArray, List.set_cons_succ, List.set_cons_zero]
            refine' wpAnyH_take (i := 36) ?h1x36yd ?hsx36yd ?hfx36yd ?hrx36yd ?hQx36yd (Or.inl ⟨?hwx36yd, ?hyx36yd⟩) hS ?restx36yd
            case h1x36yd => (simp only [List.getElem?_toArray, List.getElem?_cons_succ, List.getElem?_cons_zero]; rfl)
            case hsx36yd => kernel_rfl
            case hfx36yd => kernel_rfl
            case hrx36yd => kernel_rfl
            case hQx36yd => exact fun _ _ _ h => h
            case hwx36yd => rfl
            case hyx36yd =>
              intro W hW
              go_simp
              try with_reducible rfl
            simp only [Act.put, List.setIfInBounds_toArray, List.set_cons_succ, List.set_cons_zero]
            refine wpAnyH_done (by kernel_rfl) ?_ _
            clear hS
            go_wp2_with fail
            go_roundw
            case rel => exact ⟨i + 1, S5, _, by omega, by go_num, by rw [AX.out]; exact F6.out.1, by rw [AY.out]; exact F6.out.2.1, NS5.out, F6.out.2.2.1, F6.out.2.2.2.1, F6.out.2.2.2.2⟩
            case measure => simp [intOf]; omega
        · have hM1 : (M1 == M0) = false := by simpa using hM
          by_cases hAB : A = B
          · have EQ : Hid (∀ W : World, (Op.equalIn 10000 31 (.agg (bcells A)) (.agg (bcells B))).run Tryd.prog W = .ok true W) := fun W => by rw [EQ0.out W, decide_eq_true hAB]
            clear hAB EQ0 SQ0
            refine wp_region_held_drew (S := fun W => Below w.heap.size w W ∧ W.heap[w4.heap.size]? = some (.cells (bcells A) 31 (0, 0))) (by kernel_rfl) ⟨B5.out.drew, R5.out⟩ (fun hS => ?_)
            refine' wpAnyH_take (i := 0) ?h1x0ns ?hsx0ns ?hfx0ns ?hrx0ns ?hQx0ns (Or.inl ⟨?hwx0ns, ?hyx0ns⟩) hS ?restx0ns
            case h1x0ns => (simp only [List.getElem?_toArray, List.getElem?_cons_zero]; rfl)
            case hsx0ns => kernel_rfl
            case hfx0ns => kernel_rfl
            case hrx0ns => kernel_rfl
            case hQx0ns => exact fun _ _ _ h => h
            case hwx0ns => rfl
            case hyx0ns =>
              intro W hW
              go_simp
              try with_reducible rfl
            simp only [Act.put, List.setIfInBounds_toArray, List.set_cons_succ, List.set_cons_zero]
            refine' wpAnyH_take (i := 2) ?h1x2ns ?hsx2ns ?hfx2ns ?hrx2ns ?hQx2ns (Or.inl ⟨?hwx2ns, ?hyx2ns⟩) hS ?restx2ns
            case h1x2ns => (simp only [List.getElem?_toArray, List.getElem?_cons_succ, List.getElem?_cons_zero]; rfl)
            case hsx2ns => kernel_rfl
            case hfx2ns => kernel_rfl
            case hrx2ns => kernel_rfl
            case hQx2ns => exact fun _ _ _ h => h
            case hwx2ns => rfl
            case hyx2ns =>
              intro W hW
              go_simp
              try with_reducible rfl
            simp only [Act.put, List.setIfInBounds_toArray, List.set_cons_succ, List.set_cons_zero]
            refine' wpAnyH_take (i := 4) ?h1x4ns ?hsx4ns ?hfx4ns ?hrx4ns ?hQx4ns (Or.inl ⟨?hwx4ns, ?hyx4ns⟩) hS ?restx4ns
            case h1x4ns => (simp only [List.getElem?_toArray, List.getElem?_cons_succ, List.getElem?_cons_zero]; rfl)
            case hsx4ns => kernel_rfl
            case hfx4ns => kernel_rfl
            case hrx4ns => kernel_rfl
            case hQx4ns => exact fun _ _ _ h => h
            case hwx4ns => rfl
            case hyx4ns =>
              intro W hW
              go_simp
              try with_reducible rfl
            simp only [Act.put, List.setIfInBounds_toArray, List.set_cons_succ, List.set_cons_zero]
            refine wpAnyH_ready (rs := [1]) (by kernel_rfl) (by simp) ?_
            refine' AllReadyH.cons ?hoc1ns (fun K hK => ?stc1ns) AllReadyH.nil
            case hoc1ns => (simp only [List.getElem?_toArray, List.getElem?_cons_succ, List.getElem?_cons_zero]; rfl)
            go_simp
            refine (CN.out).mono ?_
            rintro e w' ⟨rfl, rfl⟩
            go_wp2_with fail
            refine hK.out _ _ hS (fun hHeld => ?_)
            clear hK K
            try simp only [Act.put, List.setIfInBounds_toArray, List.set_cons_succ, List.set_cons_zero]
            clear hS
            have hS := hHeld
            clear hHeld
            refine' wpAnyH_take (i := 3) ?h1x3ns ?hsx3ns ?hfx3ns ?hrx3ns ?hQx3ns (Or.inl ⟨?hwx3ns, ?hyx3ns⟩) hS ?restx3ns
            case h1x3ns => (simp only [List.getElem?_toArray, List.getElem?_cons_succ, List.getElem?_cons_zero]; rfl)
            case hsx3ns => kernel_rfl
            case hfx3ns => kernel_rfl
            case hrx3ns => kernel_rfl
            case hQx3ns => exact fun _ _ _ h => h
            case hwx3ns => rfl
            case hyx3ns =>
              intro W hW
              go_simp
              try with_reducible rfl
            simp only [Act.put, List.setIfInBounds_toArray, List.set_cons_succ, List.set_cons_zero]
            refine' wpAnyH_take (i := 5) ?h1x5ns ?hsx5ns ?hfx5ns ?hrx5ns ?hQx5ns (Or.inl ⟨?hwx5ns, ?hyx5ns⟩) hS ?restx5ns
            case h1x5ns => (simp only [List.getElem?_toArray, List.getElem?_cons_succ, List.getElem?_cons_zero]; rfl)
            case hsx5ns => kernel_rfl
            case hfx5ns => kernel_rfl
            case hrx5ns => kernel_rfl
            case hQx5ns => exact fun _ _ _ h => h
            case hwx5ns => rfl
            case hyx5ns =>
              intro W hW
              go_simp
              try with_reducible rfl
            simp only [Act.put, List.setIfInBounds_toArray, List.set_cons_succ, List.set_cons_zero]
            refine' wpAnyH_take (i := 6) ?h1x6ns ?hsx6ns ?hfx6ns ?hrx6ns ?hQx6ns (Or.inl ⟨?hwx6ns, ?hyx6ns⟩) hS ?restx6ns
            case h1x6ns => (simp only [List.getElem?_toArray, List.getElem?_cons_succ, List.getElem?_cons_zero]; rfl)
            case hsx6ns => kernel_rfl
            case hfx6ns => kernel_rfl
            case hrx6ns => kernel_rfl
            case hQx6ns => exact fun _ _ _ h => h
            case hwx6ns => rfl
            case hyx6ns =>
              intro W hW
              go_simp
              try with_reducible rfl
            simp only [Act.put, List.setIfInBounds_toArray, List.set_cons_succ, List.set_cons_zero]
            refine' wpAnyH_take (i := 7) ?h1x7ns ?hsx7ns ?hfx7ns ?hrx7ns ?hQx7ns (yieldsIf_load_at ?hwx7ns 31 (.tmp 8) ?hopx7ns w4.heap.size 0 rfl (bcells A) _ (fun W hW => range_row hW.2) Tryd.underlying31 rfl ?hix7ns) hS ?restx7ns
            case h1x7ns => (simp only [List.getElem?_toArray, List.getElem?_cons_succ, List.getElem?_cons_zero]; rfl)
            case hopx7ns => rfl
            case hsx7ns => kernel_rfl
            case hfx7ns => kernel_rfl
            case hrx7ns => kernel_rfl
            case hQx7ns => exact fun _ _ _ h => h
            case hwx7ns => rfl
            case hix7ns => exact iA.out
            simp only [Act.put, List.setIfInBounds_toArray, List.set_cons_succ, List.set_cons_zero]
            refine' wpAnyH_take (i := 8) ?h1x8ns ?hsx8ns ?hfx8ns ?hrx8ns ?hQx8ns (Or.inl ⟨?hwx8ns, ?hyx8ns⟩) hS ?restx8ns
            case h1x8ns => (simp only [List.getElem?_toArray, List.getElem?_cons_succ, List.getElem?_cons_zero]; rfl)
            case hsx8ns => kernel_rfl
            case hfx8ns => kernel_rfl
            case hrx8ns => kernel_rfl
            case hQx8ns => exact fun _ _ _ h => h
            case hwx8ns => rfl
            case hyx8ns =>
              intro W hW
              go_simp
              try with_reducible rfl
            simp only [Act.put, List.setIfInBounds_toArray, List.set_cons_succ, List.set_cons_zero]
            refine' wpAnyH_take (i := 9) ?h1x9ns ?hsx9ns ?hfx9ns ?hrx9ns ?hQx9ns (Or.inl ⟨?hwx9ns, ?hyx9ns⟩) hS ?restx9ns
            case h1x9ns => (simp only [List.getElem?_toArray, List.getElem?_cons_succ, List.getElem?_cons_zero]; rfl)
            case hsx9ns => kernel_rfl
            case hfx9ns => kernel_rfl
            case hrx9ns => kernel_rfl
            case hQx9ns => exact fun _ _ _ h => h
            case hwx9ns => rfl
            case hyx9ns =>
              intro W hW
              go_simp
              try with_reducible rfl
            simp only [Act.put, List.setIfInBounds_toArray, List.set_cons_succ, List.set_cons_zero]
            refine' wpAnyH_take (i := 10) ?h1x10ns ?hsx10ns ?hfx10ns ?hrx10ns ?hQx10ns (Or.inl ⟨?hwx10ns, ?hyx10ns⟩) hS ?restx10ns
            case h1x10ns => (simp only [List.getElem?_toArray, List.getElem?_cons_succ, List.getElem?_cons_zero]; rfl)
            case hsx10ns => kernel_rfl
            case hfx10ns => kernel_rfl
            case hrx10ns => kernel_rfl
            case hQx10ns => exact fun _ _ _ h => h
            case hwx10ns => rfl
            case hyx10ns =>
              intro W hW
              go_simp
              try with_reducible rfl
            simp only [Act.put, List.setIfInBounds_toArray, List.set_cons_succ, List.set_cons_zero]
            refine' wpAnyH_take (i := 11) ?h1x11ns ?hsx11ns ?hfx11ns ?hrx11ns ?hQx11ns (Or.inl ⟨?hwx11ns, ?hyx11ns⟩) hS ?restx11ns
            case h1x11ns => (simp only [List.getElem?_toArray, List.getElem?_cons_succ, List.getElem?_cons_zero]; rfl)
            case hsx11ns => kernel_rfl
            case hfx11ns => kernel_rfl
            case hrx11ns => kernel_rfl
            case hQx11ns => exact fun _ _ _ h => h
            case hwx11ns => rfl
            case hyx11ns =>
              intro W hW
              go_simp
              try with_reducible rfl
            simp only [Act.put, List.setIfInBounds_toArray, List.set_cons_succ, List.set_cons_zero]
            refine' wpAnyH_take (i := 12) ?h1x12ns ?hsx12ns ?hfx12ns ?hrx12ns ?hQx12ns (Or.inl ⟨?hwx12ns, ?hyx12ns⟩) hS ?restx12ns
            case h1x12ns => (simp only [List.getElem?_toArray, List.getElem?_cons_succ, List.getElem?_cons_zero]; rfl)
            case hsx12ns => kernel_rfl
            case hfx12ns => kernel_rfl
            case hrx12ns => kernel_rfl
            case hQx12ns => exact fun _ _ _ h => h
            case hwx12ns => rfl
            case hyx12ns =>
              intro W hW
              go_simp
              try with_reducible rfl
            simp only [Act.put, List.setIfInBounds_toArray, List.set_cons_succ, List.set_cons_zero]
            refine' wpAnyH_take (i := 13) ?h1x13ns ?hsx13ns ?hfx13ns ?hrx13ns ?hQx13ns (Or.inl ⟨?hwx13ns, ?hyx13ns⟩) hS ?restx13ns
            case h1x13ns => (simp only [List.getElem?_toArray, List.getElem?_cons_succ, List.getElem?_cons_zero]; rfl)
            case hsx13ns => kernel_rfl
            case hfx13ns => kernel_rfl
            case hrx13ns => kernel_rfl
            case hQx13ns => exact fun _ _ _ h => h
            case hwx13ns => rfl
            case hyx13ns =>
              intro W hW
              go_simp
              try with_reducible rfl
            simp only [Act.put, List.setIfInBounds_toArray, List.set_cons_succ, List.set_cons_zero]
            refine' wpAnyH_take (i := 14) ?h1x14ns ?hsx14ns ?hfx14ns ?hrx14ns ?hQx14ns (Or.inl ⟨?hwx14ns, ?hyx14ns⟩) hS ?restx14ns
            case h1x14ns => (simp only [List.getElem?_toArray, List.getElem?_cons_succ, List.getElem?_cons_zero]; rfl)
            case hsx14ns => kernel_rfl
            case hfx14ns => kernel_rfl
            case hrx14ns => kernel_rfl
            case hQx14ns => exact fun _ _ _ h => h
            case hwx14ns => rfl
            case hyx14ns =>
              intro W hW
              go_simp
              try with_reducible rfl
            simp only [Act.put, List.setIfInBounds_toArray, List.set_cons_succ, List.set_cons_zero]
            rw [HWR.out]
            refine' wpAnyH_take (i := 15) ?h1x15ns ?hsx15ns ?hfx15ns ?hrx15ns ?hQx15ns (Or.inl ⟨?hwx15ns, ?hyx15ns⟩) hS ?restx15ns
            case h1x15ns => (simp only [List.getElem?_toArray, List.getElem?_cons_succ, List.getElem?_cons_zero]; rfl)
            case hsx15ns => kernel_rfl
            case hfx15ns => kernel_rfl
            case hrx15ns => kernel_rfl
            case hQx15ns => exact fun _ _ _ h => h
            case hwx15ns => rfl
            case hyx15ns =>
              intro W hW
              go_simp
              try with_reducible rfl
            simp only [Act.put, List.setIfInBounds_toArray, List.set_cons_succ, List.set_cons_zero]
            refine' wpAnyH_take (i := 16) ?h1x16ns ?hsx16ns ?hfx16ns ?hrx16ns ?hQx16ns (Or.inl ⟨?hwx16ns, ?hyx16ns⟩) hS ?restx16ns
            case h1x16ns => (simp only [List.getElem?_toArray, List.getElem?_cons_succ, List.getElem?_cons_zero]; rfl)
            case hsx16ns => kernel_rfl
            case hfx16ns => kernel_rfl
            case hrx16ns => kernel_rfl
            case hQx16ns => exact fun _ _ _ h => h
            case hwx16ns => rfl
            case hyx16ns =>
              intro W hW
              have cu := (hW.1.cell (p := ⟨bb, oo + k, none⟩) LBB.out).trans CK.out
              go_simp
              try with_reducible rfl
            simp only [Act.put, List.setIfInBounds_toArray, List.set_cons_succ, List.set_cons_zero]
            refine wpAnyH_ready (rs := [17]) (by kernel_rfl) (by simp) ?_
            refine' AllReadyH.cons ?hoc17ns (fun K hK => ?stc17ns) AllReadyH.nil
            case hoc17ns => (simp only [List.getElem?_toArray, List.getElem?_cons_succ, List.getElem?_cons_zero]; rfl)
            go_simp
            refine (SY.out).mono ?_
            rintro e w6 ⟨rfl, hl6, hm6⟩
            rw [← HB.out]
            have R6 := Lib.hid (RW6.out w6 hm6)
            have F6 := Lib.hid (FIN.out w6 hl6 hm6)
            clear hl6 hm6
            go_wp2_with fail
            refine hK.out _ _ R6.out (fun hHeld => ?_)
            clear hK K
            try simp only [Act.put, List.setIfInBounds_toArray, List.set_cons_succ, List.set_cons_zero]
            clear hS R6
            have hS := hHeld
            clear hHeld
            refine' wpAnyH_take (i := 18) ?h1x18ns ?hsx18ns ?hfx18ns ?hrx18ns ?hQx18ns (Or.inl ⟨?hwx18ns, ?hyx18ns⟩) hS ?restx18ns
            case h1x18ns => (simp only [List.getElem?_toArray, List.getElem?_cons_succ, List.getElem?_cons_zero]; rfl)
            case hsx18ns => kernel_rfl
            case hfx18ns => kernel_rfl
            case hrx18ns => kernel_rfl
            case hQx18ns => exact fun _ _ _ h => h
            case hwx18ns => rfl
            case hyx18ns =>
              intro W hW
              have eq := EQ.out W
              go_simp
              try with_reducible rfl
            simp only [Act.put, List.setIfInBounds_toArray, List.set_cons_succ, List.set_cons_zero]
            refine' wpAnyH_take (i := 19) ?h1x19ns ?hsx19ns ?hfx19ns ?hrx19ns ?hQx19ns (Or.inl ⟨?hwx19ns, ?hyx19ns⟩) hS ?restx19ns
            case h1x19ns => (simp only [List.getElem?_toArray, List.getElem?_cons_succ, List.getElem?_cons_zero]; rfl)
            case hsx19ns => kernel_rfl
            case hfx19ns => kernel_rfl
            case hrx19ns => kernel_rfl
            case hQx19ns => exact fun _ _ _ h => h
            case hwx19ns => rfl
            case hyx19ns =>
              intro W hW
              go_simp
              try with_reducible rfl
            simp only [Act.put, List.setIfInBounds_toArray, List.set_cons_succ, List.set_cons_zero]
            refine' wpAnyH_take (i := 20) ?h1x20ns ?hsx20ns ?hfx20ns ?hrx20ns ?hQx20ns (Or.inr ⟨?hwx20ns, rfl⟩) hS ?restx20ns
            case h1x20ns => (simp only [List.getElem?_toArray, List.getElem?_cons_succ, List.getElem?_cons_zero]; rfl)
            case hsx20ns => kernel_rfl
            case hfx20ns => kernel_rfl
            case hrx20ns => kernel_rfl
            case hQx20ns => exact fun _ _ _ h => h
            case hwx20ns => rfl
            simp only [Act.put, List.setIfInBounds_toArray, List.set_cons_succ, List.set_cons_zero]
            refine' wpAnyH_take (i := 21) ?h1x21ns ?hsx21ns ?hfx21ns ?hrx21ns ?hQx21ns (Or.inr ⟨?hwx21ns, rfl⟩) hS ?restx21ns
            case h1x21ns => (simp only [List.getElem?_toArray, List.getElem?_cons_succ, List.getElem?_cons_zero]; rfl)
            case hsx21ns => kernel_rfl
            case hfx21ns => kernel_rfl
            case hrx21ns => kernel_rfl
            case hQx21ns => exact fun _ _ _ h => h
            case hwx21ns => rfl
            simp only [Act.put, List.setIfInBounds_toArray, List.set_cons_succ, List.set_cons_zero]
            refine' wpAnyH_take (i := 22) ?h1x22ns ?hsx22ns ?hfx22ns ?hrx22ns ?hQx22ns (Or.inr ⟨?hwx22ns, rfl⟩) hS ?restx22ns
            case h1x22ns => (simp only [List.getElem?_toArray, List.getElem?_cons_succ, List.getElem?_cons_zero]; rfl)
            case hsx22ns => kernel_rfl
            case hfx22ns => kernel_rfl
            case hrx22ns => kernel_rfl
            case hQx22ns => exact fun _ _ _ h => h
            case hwx22ns => rfl
            simp only [Act.put, List.setIfInBounds_toArray, List.set_cons_succ, List.set_cons_zero]
            refine' wpAnyH_take (i := 23) ?h1x23ns ?hsx23ns ?hfx23ns ?hrx23ns ?hQx23ns (Or.inr ⟨?hwx23ns, rfl⟩) hS ?restx23ns
            case h1x23ns => (simp only [List.getElem?_toArray, List.getElem?_cons_succ, List.getElem?_cons_zero]; rfl)
            case hsx23ns => kernel_rfl
            case hfx23ns => kernel_rfl
            case hrx23ns => kernel_rfl
            case hQx23ns => exact fun _ _ _ h => h
            case hwx23ns => rfl
            simp only [Act.put, List.setIfInBounds_toArray, List.set_cons_succ, List.set_cons_zero]
            refine' wpAnyH_take (i := 24) ?h1x24ns ?hsx24ns ?hfx24ns ?hrx24ns ?hQx24ns (Or.inr ⟨?hwx24ns, rfl⟩) hS ?restx24ns
            case h1x24ns => (simp only [List.getElem?_toArray, List.getElem?_cons_succ, List.getElem?_cons_zero]; rfl)
            case hsx24ns => kernel_rfl
            case hfx24ns => kernel_rfl
            case hrx24ns => kernel_rfl
            case hQx24ns => exact fun _ _ _ h => h
            case hwx24ns => rfl
            simp only [Act.put, List.setIfInBounds_toArray, List.set_cons_succ, List.set_cons_zero]
            refine' wpAnyH_take (i := 25) ?h1x25ns ?hsx25ns ?hfx25ns ?hrx25ns ?hQx25ns (Or.inr ⟨?hwx25ns, rfl⟩) hS ?restx25ns
            case h1x25ns => (simp only [List.getElem?_toArray, List.getElem?_cons_succ, List.getElem?_cons_zero]; rfl)
            case hsx25ns => kernel_rfl
            case hfx25ns => kernel_rfl
            case hrx25ns => kernel_rfl
            case hQx25ns => exact fun _ _ _ h => h
            case hwx25ns => rfl
            simp only [Act.put, List.setIfInBounds_toArray, List.set_cons_succ, List.set_cons_zero]
            refine' wpAnyH_take (i := 26) ?h1x26ns ?hsx26ns ?hfx26ns ?hrx26ns ?hQx26ns (Or.inr ⟨?hwx26ns, rfl⟩) hS ?restx26ns
            case h1x26ns => (simp only [List.getElem?_toArray, List.getElem?_cons_succ, List.getElem?_cons_zero]; rfl)
            case hsx26ns => kernel_rfl
            case hfx26ns => kernel_rfl
            case hrx26ns => kernel_rfl
            case hQx26ns => exact fun _ _ _ h => h
            case hwx26ns => rfl
            simp only [Act.put, List.setIfInBounds_toArray, List.set_cons_succ, List.set_cons_zero]
            refine' wpAnyH_take (i := 27) ?h1x27ns ?hsx27ns ?hfx27ns ?hrx27ns ?hQx27ns (Or.inr ⟨?hwx27ns, rfl⟩) hS ?restx27ns
            case h1x27ns => (simp only [List.getElem?_toArray, List.getElem?_cons_succ, List.getElem?_cons_zero]; rfl)
            case hsx27ns => kernel_rfl
            case hfx27ns => kernel_rfl
            case hrx27ns => kernel_rfl
            case hQx27ns => exact fun _ _ _ h => h
            case hwx27ns => rfl
            simp only [Act.put, List.setIfInBounds_toArray, List.set_cons_succ, List.set_cons_zero]
            refine' wpAnyH_take (i := 28) ?h1x28ns ?hsx28ns ?hfx28ns ?hrx28ns ?hQx28ns (Or.inr ⟨?hwx28ns, rfl⟩) hS ?restx28ns
            case h1x28ns => (simp only [List.getElem?_toArray, List.getElem?_cons_succ, List.getElem?_cons_zero]; rfl)
            case hsx28ns => kernel_rfl
            case hfx28ns => kernel_rfl
            case hrx28ns => kernel_rfl
            case hQx28ns => exact fun _ _ _ h => h
            case hwx28ns => rfl
            simp only [Act.put, List.setIfInBounds_toArray, List.set_cons_succ, List.set_cons_zero]
            refine' wpAnyH_take (i := 29) ?h1x29ns ?hsx29ns ?hfx29ns ?hrx29ns ?hQx29ns (Or.inr ⟨?hwx29ns, rfl⟩) hS ?restx29ns
            case h1x29ns => (simp only [List.getElem?_toArray, List.getElem?_cons_succ, List.getElem?_cons_zero]; rfl)
            case hsx29ns => kernel_rfl
            case hfx29ns => kernel_rfl
            case hrx29ns => kernel_rfl
            case hQx29ns => exact fun _ _ _ h => h
            case hwx29ns => rfl
            simp only [Act.put, List.setIfInBounds_toArray, List.set_cons_succ, List.set_cons_zero]
            refine' wpAnyH_take (i := 30) ?h1x30ns ?hsx30ns ?hfx30ns ?hrx30ns ?hQx30ns (Or.inr ⟨?hwx30ns, rfl⟩) hS ?restx30ns
            case h1x30ns => (simp only [List.getElem?_toArray, List.getElem?_cons_succ, List.getElem?_cons_zero]; rfl)
            case hsx30ns => kernel_rfl
            case hfx30ns => kernel_rfl
            case hrx30ns => kernel_rfl
            case hQx30ns => exact fun _ _ _ h => h
            case hwx30ns => rfl
            simp only [Act.put, List.setIfInBounds_toArray, List.set_cons_succ, List.set_cons_zero]
            refine' wpAnyH_take (i := 31) ?h1x31ns ?hsx31ns ?hfx31ns ?hrx31ns ?hQx31ns (Or.inr ⟨?hwx31ns, rfl⟩) hS ?restx31ns
            case h1x31ns => (simp only [List.getElem?_toArray, List.getElem?_cons_succ, List.getElem?_cons_zero]; rfl)
            case hsx31ns => kernel_rfl
            case hfx31ns => kernel_rfl
            case hrx31ns => kernel_rfl
            case hQx31ns => exact fun _ _ _ h => h
            case hwx31ns => rfl
            simp only [Act.put, List.setIfInBounds_toArray, List.set_cons_succ, List.set_cons_zero]
            refine' wpAnyH_take (i := 32) ?h1x32ns ?hsx32ns ?hfx32ns ?hrx32ns ?hQx32ns (Or.inr ⟨?hwx32ns, rfl⟩) hS ?restx32ns
            case h1x32ns => (simp only [List.getElem?_toArray, List.getElem?_cons_succ, List.getElem?_cons_zero]; rfl)
            case hsx32ns => kernel_rfl
            case hfx32ns => kernel_rfl
            case hrx32ns => kernel_rfl
            case hQx32ns => exact fun _ _ _ h => h
            case hwx32ns => rfl
            simp only [Act.put, List.setIfInBounds_toArray, List.set_cons_succ, List.set_cons_zero]
            refine' wpAnyH_take (i := 33) ?h1x33ns ?hsx33ns ?hfx33ns ?hrx33ns ?hQx33ns (Or.inr ⟨?hwx33ns, rfl⟩) hS ?restx33ns
            case h1x33ns => (simp only [List.getElem?_toArray, List.getElem?_cons_succ, List.getElem?_cons_zero]; rfl)
            case hsx33ns => kernel_rfl
            case hfx33ns => kernel_rfl
            case hrx33ns => kernel_rfl
            case hQx33ns => exact fun _ _ _ h => h
            case hwx33ns => rfl
            simp only [Act.put, List.setIfInBounds_toArray, List.set_cons_succ, List.set_cons_zero]
            refine' wpAnyH_take (i := 34) ?h1x34ns ?hsx34ns ?hfx34ns ?hrx34ns ?hQx34ns (Or.inr ⟨?hwx34ns, rfl⟩) hS ?restx34ns
            case h1x34ns => (simp only [List.getElem?_toArray, List.getElem?_cons_succ, List.getElem?_cons_zero]; rfl)
            case hsx34ns => kernel_rfl
            case hfx34ns => kernel_rfl
            case hrx34ns => kernel_rfl
            case hQx34ns => exact fun _ _ _ h => h
            case hwx34ns => rfl
            simp only [Act.put, List.setIfInBounds_toArray, List.set_cons_succ, List.set_cons_zero]
            refine' wpAnyH_take (i := 35) ?h1x35ns ?hsx35ns ?hfx35ns ?hrx35ns ?hQx35ns (Or.inl ⟨?hwx35ns, ?hyx35ns⟩) hS ?restx35ns
            case h1x35ns => (simp only [List.getElem?_toArray, List.getElem?_cons_succ, List.getElem?_cons_zero]; rfl)
            case hsx35ns => kernel_rfl
            case hfx35ns => kernel_rfl
            case hrx35ns => kernel_rfl
            case hQx35ns => exact fun _ _ _ h => h
            case hwx35ns => rfl
            case hyx35ns =>
              intro W hW
              go_simp
              try with_reducible rfl
            simp only [Act.put, List.setIfInBounds_toArray, List.set_cons_succ, List.set_cons_zero]
            refine' wpAnyH_take (i := 36) ?h1x36ns ?hsx36ns ?hfx36ns ?hrx36ns ?hQx36ns (Or.inl ⟨?hwx36ns, ?hyx36ns⟩) hS ?restx36ns
            case h1x36ns => (simp only [List.getElem?_toArray, List.getElem?_cons_succ, List.getElem?_cons_zero]; rfl)
            case hsx36ns => kernel_rfl
            case hfx36ns => kernel_rfl
            case hrx36ns => kernel_rfl
            case hQx36ns => exact fun _ _ _ h => h
            case hwx36ns => rfl
            case hyx36ns =>
              intro W hW
              go_simp
              try with_reducible rfl
            simp only [Act.put, List.setIfInBounds_toArray, List.set_cons_succ, List.set_cons_zero]
            refine wpAnyH_done (by kernel_rfl) ?_ _
            clear hS
            go_wp2_with fail
            go_roundw
            case rel => exact ⟨i + 1, S5, _, by omega, by go_num, by rw [AX.out]; exact F6.out.1, by rw [AY.out]; exact F6.out.2.1, NS5.out, F6.out.2.2.1, F6.out.2.2.2.1, F6.out.2.2.2.2⟩
            case measure => simp [intOf]; omega
          · have EQ : Hid (∀ W : World, (Op.equalIn 10000 31 (.agg (bcells A)) (.agg (bcells B))).run Tryd.prog W = .ok false W) := fun W => by rw [EQ0.out W, decide_eq_false hAB]
            have SQ := Lib.hid (SQ0.out hAB)
            clear hAB EQ0 SQ0
            refine wp_region_held_drew (S := fun W => Below w.heap.size w W ∧ W.heap[w4.heap.size]? = some (.cells (bcells A) 31 (0, 0))) (by kernel_rfl) ⟨B5.out.drew, R5.out⟩ (fun hS => ?_)
            refine' wpAnyH_take (i := 0) ?h1x0nd ?hsx0nd ?hfx0nd ?hrx0nd ?hQx0nd (Or.inl ⟨?hwx0nd, ?hyx0nd⟩) hS ?restx0nd
            case h1x0nd => (simp only [List.getElem?_toArray, List.getElem?_cons_zero]; rfl)
            case hsx0nd => kernel_rfl
            case hfx0nd => kernel_rfl
            case hrx0nd => kernel_rfl
            case hQx0nd => exact fun _ _ _ h => h
            case hwx0nd => rfl
            case hyx0nd =>
              intro W hW
              go_simp
              try with_reducible rfl
            simp only [Act.put, List.setIfInBounds_toArray, List.set_cons_succ, List.set_cons_zero]
            refine' wpAnyH_take (i := 2) ?h1x2nd ?hsx2nd ?hfx2nd ?hrx2nd ?hQx2nd (Or.inl ⟨?hwx2nd, ?hyx2nd⟩) hS ?restx2nd
            case h1x2nd => (simp only [List.getElem?_toArray, List.getElem?_cons_succ, List.getElem?_cons_zero]; rfl)
            case hsx2nd => kernel_rfl
            case hfx2nd => kernel_rfl
            case hrx2nd => kernel_rfl
            case hQx2nd => exact fun _ _ _ h => h
            case hwx2nd => rfl
            case hyx2nd =>
              intro W hW
              go_simp
              try with_reducible rfl
            simp only [Act.put, List.setIfInBounds_toArray, List.set_cons_succ, List.set_cons_zero]
            refine' wpAnyH_take (i := 4) ?h1x4nd ?hsx4nd ?hfx4nd ?hrx4nd ?hQx4nd (Or.inl ⟨?hwx4nd, ?hyx4nd⟩) hS ?restx4nd
            case h1x4nd => (simp only [List.getElem?_toArray, List.getElem?_cons_succ, List.getElem?_cons_zero]; rfl)
            case hsx4nd => kernel_rfl
            case hfx4nd => kernel_rfl
            case hrx4nd => kernel_rfl
            case hQx4nd => exact fun _ _ _ h => h
            case hwx4nd => rfl
            case hyx4nd =>
              intro W hW
              go_simp
              try with_reducible rfl
            simp only [Act.put, List.setIfInBounds_toArray, List.set_cons_succ, List.set_cons_zero]
            refine wpAnyH_ready (rs := [1]) (by kernel_rfl) (by simp) ?_
            refine' AllReadyH.cons ?hoc1nd (fun K hK => ?stc1nd) AllReadyH.nil
            case hoc1nd => (simp only [List.getElem?_toArray, List.getElem?_cons_succ, List.getElem?_cons_zero]; rfl)
            go_simp
            refine (CN.out).mono ?_
            rintro e w' ⟨rfl, rfl⟩
            go_wp2_with fail
            refine hK.out _ _ hS (fun hHeld => ?_)
            clear hK K
            try simp only [Act.put, List.setIfInBounds_toArray, List.set_cons_succ, List.set_cons_zero]
            clear hS
            have hS := hHeld
            clear hHeld
            refine' wpAnyH_take (i := 3) ?h1x3nd ?hsx3nd ?hfx3nd ?hrx3nd ?hQx3nd (Or.inl ⟨?hwx3nd, ?hyx3nd⟩) hS ?restx3nd
            case h1x3nd => (simp only [List.getElem?_toArray, List.getElem?_cons_succ, List.getElem?_cons_zero]; rfl)
            case hsx3nd => kernel_rfl
            case hfx3nd => kernel_rfl
            case hrx3nd => kernel_rfl
            case hQx3nd => exact fun _ _ _ h => h
            case hwx3nd => rfl
            case hyx3nd =>
              intro W hW
              go_simp
              try with_reducible rfl
            simp only [Act.put, List.setIfInBounds_toArray, List.set_cons_succ, List.set_cons_zero]
            refine' wpAnyH_take (i := 5) ?h1x5nd ?hsx5nd ?hfx5nd ?hrx5nd ?hQx5nd (Or.inl ⟨?hwx5nd, ?hyx5nd⟩) hS ?restx5nd
            case h1x5nd => (simp only [List.getElem?_toArray, List.getElem?_cons_succ, List.getElem?_cons_zero]; rfl)
            case hsx5nd => kernel_rfl
            case hfx5nd => kernel_rfl
            case hrx5nd => kernel_rfl
            case hQx5nd => exact fun _ _ _ h => h
            case hwx5nd => rfl
            case hyx5nd =>
              intro W hW
              go_simp
              try with_reducible rfl
            simp only [Act.put, List.setIfInBounds_toArray, List.set_cons_succ, List.set_cons_zero]
            refine' wpAnyH_take (i := 6) ?h1x6nd ?hsx6nd ?hfx6nd ?hrx6nd ?hQx6nd (Or.inl ⟨?hwx6nd, ?hyx6nd⟩) hS ?restx6nd
            case h1x6nd => (simp only [List.getElem?_toArray, List.getElem?_cons_succ, List.getElem?_cons_zero]; rfl)
            case hsx6nd => kernel_rfl
            case hfx6nd => kernel_rfl
            case hrx6nd => kernel_rfl
            case hQx6nd => exact fun _ _ _ h => h
            case hwx6nd => rfl
            case hyx6nd =>
              intro W hW
              go_simp
              try with_reducible rfl
            simp only [Act.put, List.setIfInBounds_toArray, List.set_cons_succ, List.set_cons_zero]
            refine' wpAnyH_take (i := 7) ?h1x7nd ?hsx7nd ?hfx7nd ?hrx7nd ?hQx7nd (yieldsIf_load_at ?hwx7nd 31 (.tmp 8) ?hopx7nd w4.heap.size 0 rfl (bcells A) _ (fun W hW => range_row hW.2) Tryd.underlying31 rfl ?hix7nd) hS ?restx7nd
            case h1x7nd => (simp only [List.getElem?_toArray, List.getElem?_cons_succ, List.getElem?_cons_zero]; rfl)
            case hopx7nd => rfl
            case hsx7nd => kernel_rfl
            case hfx7nd => kernel_rfl
            case hrx7nd => kernel_rfl
            case hQx7nd => exact fun _ _ _ h => h
            case hwx7nd => rfl
            case hix7nd => exact iA.out
            simp only [Act.put, List.setIfInBounds_toArray, List.set_cons_succ, List.set_cons_zero]
            refine' wpAnyH_take (i := 8) ?h1x8nd ?hsx8nd ?hfx8nd ?hrx8nd ?hQx8nd (Or.inl ⟨?hwx8nd, ?hyx8nd⟩) hS ?restx8nd
            case h1x8nd => (simp only [List.getElem?_toArray, List.getElem?_cons_succ, List.getElem?_cons_zero]; rfl)
            case hsx8nd => kernel_rfl
            case hfx8nd => kernel_rfl
            case hrx8nd => kernel_rfl
            case hQx8nd => exact fun _ _ _ h => h
            case hwx8nd => rfl
            case hyx8nd =>
              intro W hW
              go_simp
              try with_reducible rfl
            simp only [Act.put, List.setIfInBounds_toArray, List.set_cons_succ, List.set_cons_zero]
            refine' wpAnyH_take (i := 9) ?h1x9nd ?hsx9nd ?hfx9nd ?hrx9nd ?hQx9nd (Or.inl ⟨?hwx9nd, ?hyx9nd⟩) hS ?restx9nd
            case h1x9nd => (simp only [List.getElem?_toArray, List.getElem?_cons_succ, List.getElem?_cons_zero]; rfl)
            case hsx9nd => kernel_rfl
            case hfx9nd => kernel_rfl
            case hrx9nd => kernel_rfl
            case hQx9nd => exact fun _ _ _ h => h
            case hwx9nd => rfl
            case hyx9nd =>
              intro W hW
              go_simp
              try with_reducible rfl
            simp only [Act.put, List.setIfInBounds_toArray, List.set_cons_succ, List.set_cons_zero]
            refine' wpAnyH_take (i := 10) ?h1x10nd ?hsx10nd ?hfx10nd ?hrx10nd ?hQx10nd (Or.inl ⟨?hwx10nd, ?hyx10nd⟩) hS ?restx10nd
            case h1x10nd => (simp only [List.getElem?_toArray, List.getElem?_cons_succ, List.getElem?_cons_zero]; rfl)
            case hsx10nd => kernel_rfl
            case hfx10nd => kernel_rfl
            case hrx10nd => kernel_rfl
            case hQx10nd => exact fun _ _ _ h => h
            case hwx10nd => rfl
            case hyx10nd =>
              intro W hW
              go_simp
              try with_reducible rfl
            simp only [Act.put, List.setIfInBounds_toArray, List.set_cons_succ, List.set_cons_zero]
            refine' wpAnyH_take (i := 11) ?h1x11nd ?hsx11nd ?hfx11nd ?hrx11nd ?hQx11nd (Or.inl ⟨?hwx11nd, ?hyx11nd⟩) hS ?restx11nd
            case h1x11nd => (simp only [List.getElem?_toArray, List.getElem?_cons_succ, List.getElem?_cons_zero]; rfl)
            case hsx11nd => kernel_rfl
            case hfx11nd => kernel_rfl
            case hrx11nd => kernel_rfl
            case hQx11nd => exact fun _ _ _ h => h
            case hwx11nd => rfl
            case hyx11nd =>
              intro W hW
              go_simp
              try with_reducible rfl
            simp only [Act.put, List.setIfInBounds_toArray, List.set_cons_succ, List.set_cons_zero]
            refine' wpAnyH_take (i := 12) ?h1x12nd ?hsx12nd ?hfx12nd ?hrx12nd ?hQx12nd (Or.inl ⟨?hwx12nd, ?hyx12nd⟩) hS ?restx12nd
            case h1x12nd => (simp only [List.getElem?_toArray, List.getElem?_cons_succ, List.getElem?_cons_zero]; rfl)
            case hsx12nd => kernel_rfl
            case hfx12nd => kernel_rfl
            case hrx12nd => kernel_rfl
            case hQx12nd => exact fun _ _ _ h => h
            case hwx12nd => rfl
            case hyx12nd =>
              intro W hW
              go_simp
              try with_reducible rfl
            simp only [Act.put, List.setIfInBounds_toArray, List.set_cons_succ, List.set_cons_zero]
            refine' wpAnyH_take (i := 13) ?h1x13nd ?hsx13nd ?hfx13nd ?hrx13nd ?hQx13nd (Or.inl ⟨?hwx13nd, ?hyx13nd⟩) hS ?restx13nd
            case h1x13nd => (simp only [List.getElem?_toArray, List.getElem?_cons_succ, List.getElem?_cons_zero]; rfl)
            case hsx13nd => kernel_rfl
            case hfx13nd => kernel_rfl
            case hrx13nd => kernel_rfl
            case hQx13nd => exact fun _ _ _ h => h
            case hwx13nd => rfl
            case hyx13nd =>
              intro W hW
              go_simp
              try with_reducible rfl
            simp only [Act.put, List.setIfInBounds_toArray, List.set_cons_succ, List.set_cons_zero]
            refine' wpAnyH_take (i := 14) ?h1x14nd ?hsx14nd ?hfx14nd ?hrx14nd ?hQx14nd (Or.inl ⟨?hwx14nd, ?hyx14nd⟩) hS ?restx14nd
            case h1x14nd => (simp only [List.getElem?_toArray, List.getElem?_cons_succ, List.getElem?_cons_zero]; rfl)
            case hsx14nd => kernel_rfl
            case hfx14nd => kernel_rfl
            case hrx14nd => kernel_rfl
            case hQx14nd => exact fun _ _ _ h => h
            case hwx14nd => rfl
            case hyx14nd =>
              intro W hW
              go_simp
              try with_reducible rfl
            simp only [Act.put, List.setIfInBounds_toArray, List.set_cons_succ, List.set_cons_zero]
            rw [HWR.out]
            refine' wpAnyH_take (i := 15) ?h1x15nd ?hsx15nd ?hfx15nd ?hrx15nd ?hQx15nd (Or.inl ⟨?hwx15nd, ?hyx15nd⟩) hS ?restx15nd
            case h1x15nd => (simp only [List.getElem?_toArray, List.getElem?_cons_succ, List.getElem?_cons_zero]; rfl)
            case hsx15nd => kernel_rfl
            case hfx15nd => kernel_rfl
            case hrx15nd => kernel_rfl
            case hQx15nd => exact fun _ _ _ h => h
            case hwx15nd => rfl
            case hyx15nd =>
              intro W hW
              go_simp
              try with_reducible rfl
            simp only [Act.put, List.setIfInBounds_toArray, List.set_cons_succ, List.set_cons_zero]
            refine' wpAnyH_take (i := 16) ?h1x16nd ?hsx16nd ?hfx16nd ?hrx16nd ?hQx16nd (Or.inl ⟨?hwx16nd, ?hyx16nd⟩) hS ?restx16nd
            case h1x16nd => (simp only [List.getElem?_toArray, List.getElem?_cons_succ, List.getElem?_cons_zero]; rfl)
            case hsx16nd => kernel_rfl
            case hfx16nd => kernel_rfl
            case hrx16nd => kernel_rfl
            case hQx16nd => exact fun _ _ _ h => h
            case hwx16nd => rfl
            case hyx16nd =>
              intro W hW
              have cu := (hW.1.cell (p := ⟨bb, oo + k, none⟩) LBB.out).trans CK.out
              go_simp
              try with_reducible rfl
            simp only [Act.put, List.setIfInBounds_toArray, List.set_cons_succ, List.set_cons_zero]
            refine wpAnyH_ready (rs := [17]) (by kernel_rfl) (by simp) ?_
            refine' AllReadyH.cons ?hoc17nd (fun K hK => ?stc17nd) AllReadyH.nil
            case hoc17nd => (simp only [List.getElem?_toArray, List.getElem?_cons_succ, List.getElem?_cons_zero]; rfl)
            go_simp
            refine (SY.out).mono ?_
            rintro e w6 ⟨rfl, hl6, hm6⟩
            rw [← HB.out]
            have R6 := Lib.hid (RW6.out w6 hm6)
            have F6 := Lib.hid (FIN.out w6 hl6 hm6)
            clear hl6 hm6
            go_wp2_with fail
            refine hK.out _ _ R6.out (fun hHeld => ?_)
            clear hK K
            try simp only [Act.put, List.setIfInBounds_toArray, List.set_cons_succ, List.set_cons_zero]
            clear hS R6
            have hS := hHeld
            clear hHeld
            refine' wpAnyH_take (i := 18) ?h1x18nd ?hsx18nd ?hfx18nd ?hrx18nd ?hQx18nd (Or.inl ⟨?hwx18nd, ?hyx18nd⟩) hS ?restx18nd
            case h1x18nd => (simp only [List.getElem?_toArray, List.getElem?_cons_succ, List.getElem?_cons_zero]; rfl)
            case hsx18nd => kernel_rfl
            case hfx18nd => kernel_rfl
            case hrx18nd => kernel_rfl
            case hQx18nd => exact fun _ _ _ h => h
            case hwx18nd => rfl
            case hyx18nd =>
              intro W hW
              have eq := EQ.out W
              go_simp
              try with_reducible rfl
            simp only [Act.put, List.setIfInBounds_toArray, List.set_cons_succ, List.set_cons_zero]
            refine' wpAnyH_take (i := 19) ?h1x19nd ?hsx19nd ?hfx19nd ?hrx19nd ?hQx19nd (Or.inl ⟨?hwx19nd, ?hyx19nd⟩) hS ?restx19nd
            case h1x19nd => (simp only [List.getElem?_toArray, List.getElem?_cons_succ, List.getElem?_cons_zero]; rfl)
            case hsx19nd => kernel_rfl
            case hfx19nd => kernel_rfl
            case hrx19nd => kernel_rfl
            case hQx19nd => exact fun _ _ _ h => h
            case hwx19nd => rfl
            case hyx19nd =>
              intro W hW
              go_simp
              try with_reducible rfl
            simp only [Act.put, List.setIfInBounds_toArray, List.set_cons_succ, List.set_cons_zero]
            refine' wpAnyH_take (i := 20) ?h1x20nd ?hsx20nd ?hfx20nd ?hrx20nd ?hQx20nd (Or.inl ⟨?hwx20nd, ?hyx20nd⟩) hS ?restx20nd
            case h1x20nd => (simp only [List.getElem?_toArray, List.getElem?_cons_succ, List.getElem?_cons_zero]; rfl)
            case hsx20nd => kernel_rfl
            case hfx20nd => kernel_rfl
            case hrx20nd => kernel_rfl
            case hQx20nd => exact fun _ _ _ h => h
            case hwx20nd => rfl
            case hyx20nd =>
              intro W hW
              go_simp
              try with_reducible rfl
            simp only [Act.put, List.setIfInBounds_toArray, List.set_cons_succ, List.set_cons_zero]
            refine' wpAnyH_take (i := 21) ?h1x21nd ?hsx21nd ?hfx21nd ?hrx21nd ?hQx21nd (Or.inl ⟨?hwx21nd, ?hyx21nd⟩) hS ?restx21nd
            case h1x21nd => (simp only [List.getElem?_toArray, List.getElem?_cons_succ, List.getElem?_cons_zero]; rfl)
            case hsx21nd => kernel_rfl
            case hfx21nd => kernel_rfl
            case hrx21nd => kernel_rfl
            case hQx21nd => exact fun _ _ _ h => h
            case hwx21nd => rfl
            case hyx21nd =>
              intro W hW
              go_simp
              try with_reducible rfl
            simp only [Act.put, List.setIfInBounds_toArray, List.set_cons_succ, List.set_cons_zero]
            refine' wpAnyH_take (i := 22) ?h1x22nd ?hsx22nd ?hfx22nd ?hrx22nd ?hQx22nd (Or.inl ⟨?hwx22nd, ?hyx22nd⟩) hS ?restx22nd
            case h1x22nd => (simp only [List.getElem?_toArray, List.getElem?_cons_succ, List.getElem?_cons_zero]; rfl)
            case hsx22nd => kernel_rfl
            case hfx22nd => kernel_rfl
            case hrx22nd => kernel_rfl
            case hQx22nd => exact fun _ _ _ h => h
            case hwx22nd => rfl
            case hyx22nd =>
              intro W hW
              go_simp
              try with_reducible rfl
            simp only [Act.put, List.setIfInBounds_toArray, List.set_cons_succ, List.set_cons_zero]
            refine' wpAnyH_take (i := 23) ?h1x23nd ?hsx23nd ?hfx23nd ?hrx23nd ?hQx23nd (Or.inl ⟨?hwx23nd, ?hyx23nd⟩) hS ?restx23nd
            case h1x23nd => (simp only [List.getElem?_toArray, List.getElem?_cons_succ, List.getElem?_cons_zero]; rfl)
            case hsx23nd => kernel_rfl
            case hfx23nd => kernel_rfl
            case hrx23nd => kernel_rfl
            case hQx23nd => exact fun _ _ _ h => h
            case hwx23nd => rfl
            case hyx23nd =>
              intro W hW
              have cu := (hW.1.cell (p := ⟨bb, oo + i, none⟩) LBB.out).trans CI.out
              go_simp
              try with_reducible rfl
            simp only [Act.put, List.setIfInBounds_toArray, List.set_cons_succ, List.set_cons_zero]
            refine' wpAnyH_take (i := 24) ?h1x24nd ?hsx24nd ?hfx24nd ?hrx24nd ?hQx24nd (Or.inl ⟨?hwx24nd, ?hyx24nd⟩) hS ?restx24nd
            case h1x24nd => (simp only [List.getElem?_toArray, List.getElem?_cons_succ, List.getElem?_cons_zero]; rfl)
            case hsx24nd => kernel_rfl
            case hfx24nd => kernel_rfl
            case hrx24nd => kernel_rfl
            case hQx24nd => exact fun _ _ _ h => h
            case hwx24nd => rfl
            case hyx24nd =>
              intro W hW
              have st := (HSUX.out.below hW.1).str
              go_simp
              try with_reducible rfl
            simp only [Act.put, List.setIfInBounds_toArray, List.set_cons_succ, List.set_cons_zero]
            refine' wpAnyH_take (i := 25) ?h1x25nd ?hsx25nd ?hfx25nd ?hrx25nd ?hQx25nd (Or.inl ⟨?hwx25nd, ?hyx25nd⟩) hS ?restx25nd
            case h1x25nd => (simp only [List.getElem?_toArray, List.getElem?_cons_succ, List.getElem?_cons_zero]; rfl)
            case hsx25nd => kernel_rfl
            case hfx25nd => kernel_rfl
            case hrx25nd => kernel_rfl
            case hQx25nd => exact fun _ _ _ h => h
            case hwx25nd => rfl
            case hyx25nd =>
              intro W hW
              go_simp
              try with_reducible rfl
            simp only [Act.put, List.setIfInBounds_toArray, List.set_cons_succ, List.set_cons_zero]
            refine' wpAnyH_take (i := 26) ?h1x26nd ?hsx26nd ?hfx26nd ?hrx26nd ?hQx26nd (Or.inl ⟨?hwx26nd, ?hyx26nd⟩) hS ?restx26nd
            case h1x26nd => (simp only [List.getElem?_toArray, List.getElem?_cons_succ, List.getElem?_cons_zero]; rfl)
            case hsx26nd => kernel_rfl
            case hfx26nd => kernel_rfl
            case hrx26nd => kernel_rfl
            case hQx26nd => exact fun _ _ _ h => h
            case hwx26nd => rfl
            case hyx26nd =>
              intro W hW
              go_simp
              try with_reducible rfl
            simp only [Act.put, List.setIfInBounds_toArray, List.set_cons_succ, List.set_cons_zero]
            refine' wpAnyH_take (i := 27) ?h1x27nd ?hsx27nd ?hfx27nd ?hrx27nd ?hQx27nd (Or.inl ⟨?hwx27nd, ?hyx27nd⟩) hS ?restx27nd
            case h1x27nd => (simp only [List.getElem?_toArray, List.getElem?_cons_succ, List.getElem?_cons_zero]; rfl)
            case hsx27nd => kernel_rfl
            case hfx27nd => kernel_rfl
            case hrx27nd => kernel_rfl
            case hQx27nd => exact fun _ _ _ h => h
            case hwx27nd => rfl
            case hyx27nd =>
              intro W hW
              go_simp
              try with_reducible rfl
            simp only [Act.put, List.setIfInBounds_toArray, List.set_cons_succ, List.set_cons_zero]
            refine' wpAnyH_take (i := 28) ?h1x28nd ?hsx28nd ?hfx28nd ?hrx28nd ?hQx28nd (Or.inl ⟨?hwx28nd, ?hyx28nd⟩) hS ?restx28nd
            case h1x28nd => (simp only [List.getElem?_toArray, List.getElem?_cons_succ, List.getElem?_cons_zero]; rfl)
            case hsx28nd => kernel_rfl
            case hfx28nd => kernel_rfl
            case hrx28nd => kernel_rfl
            case hQx28nd => exact fun _ _ _ h => h
            case hwx28nd => rfl
            case hyx28nd =>
              intro W hW
              go_simp
              try with_reducible rfl
            simp only [Act.put, List.setIfInBounds_toArray, List.set_cons_succ, List.set_cons_zero]
            refine' wpAnyH_take (i := 29) ?h1x29nd ?hsx29nd ?hfx29nd ?hrx29nd ?hQx29nd (Or.inl ⟨?hwx29nd, ?hyx29nd⟩) hS ?restx29nd
            case h1x29nd => (simp only [List.getElem?_toArray, List.getElem?_cons_succ, List.getElem?_cons_zero]; rfl)
            case hsx29nd => kernel_rfl
            case hfx29nd => kernel_rfl
            case hrx29nd => kernel_rfl
            case hQx29nd => exact fun _ _ _ h => h
            case hwx29nd => rfl
            case hyx29nd =>
              intro W hW
              go_simp
              try with_reducible rfl
            simp only [Act.put, List.setIfInBounds_toArray, List.set_cons_succ, List.set_cons_zero]
            refine' wpAnyH_take (i := 30) ?h1x30nd ?hsx30nd ?hfx30nd ?hrx30nd ?hQx30nd (Or.inl ⟨?hwx30nd, ?hyx30nd⟩) hS ?restx30nd
            case h1x30nd => (simp only [List.getElem?_toArray, List.getElem?_cons_succ, List.getElem?_cons_zero]; rfl)
            case hsx30nd => kernel_rfl
            case hfx30nd => kernel_rfl
            case hrx30nd => kernel_rfl
            case hQx30nd => exact fun _ _ _ h => h
            case hwx30nd => rfl
            case hyx30nd =>
              intro W hW
              go_simp
              try with_reducible rfl
            simp only [Act.put, List.setIfInBounds_toArray, List.set_cons_succ, List.set_cons_zero]
            rw [HWR.out]
            refine' wpAnyH_take (i := 31) ?h1x31nd ?hsx31nd ?hfx31nd ?hrx31nd ?hQx31nd (Or.inl ⟨?hwx31nd, ?hyx31nd⟩) hS ?restx31nd
            case h1x31nd => (simp only [List.getElem?_toArray, List.getElem?_cons_succ, List.getElem?_cons_zero]; rfl)
            case hsx31nd => kernel_rfl
            case hfx31nd => kernel_rfl
            case hrx31nd => kernel_rfl
            case hQx31nd => exact fun _ _ _ h => h
            case hwx31nd => rfl
            case hyx31nd =>
              intro W hW
              go_simp
              try with_reducible rfl
            simp only [Act.put, List.setIfInBounds_toArray, List.set_cons_succ, List.set_cons_zero]
            refine' wpAnyH_take (i := 32) ?h1x32nd ?hsx32nd ?hfx32nd ?hrx32nd ?hQx32nd (Or.inl ⟨?hwx32nd, ?hyx32nd⟩) hS ?restx32nd
            case h1x32nd => (simp only [List.getElem?_toArray, List.getElem?_cons_succ, List.getElem?_cons_zero]; rfl)
            case hsx32nd => kernel_rfl
            case hfx32nd => kernel_rfl
            case hrx32nd => kernel_rfl
            case hQx32nd => exact fun _ _ _ h => h
            case hwx32nd => rfl
            case hyx32nd =>
              intro W hW
              have cu := (hW.1.cell (p := ⟨bb, oo + k, none⟩) LBB.out).trans CK.out
              go_simp
              try with_reducible rfl
            simp only [Act.put, List.setIfInBounds_toArray, List.set_cons_succ, List.set_cons_zero]
            refine' wpAnyH_take (i := 33) ?h1x33nd ?hsx33nd ?hfx33nd ?hrx33nd ?hQx33nd (Or.inl ⟨?hwx33nd, ?hyx33nd⟩) hS ?restx33nd
            case h1x33nd => (simp only [List.getElem?_toArray, List.getElem?_cons_succ, List.getElem?_cons_zero]; rfl)
            case hsx33nd => kernel_rfl
            case hfx33nd => kernel_rfl
            case hrx33nd => kernel_rfl
            case hQx33nd => exact fun _ _ _ h => h
            case hwx33nd => rfl
            case hyx33nd =>
              intro W hW
              have st := (HSUK.out.below hW.1).str
              go_simp
              try with_reducible rfl
            simp only [Act.put, List.setIfInBounds_toArray, List.set_cons_succ, List.set_cons_zero]
            refine' wpAnyH_take (i := 34) ?h1x34nd ?hsx34nd ?hfx34nd ?hrx34nd ?hQx34nd (Or.inl ⟨?hwx34nd, ?hyx34nd⟩) hS ?restx34nd
            case h1x34nd => (simp only [List.getElem?_toArray, List.getElem?_cons_succ, List.getElem?_cons_zero]; rfl)
            case hsx34nd => kernel_rfl
            case hfx34nd => kernel_rfl
            case hrx34nd => kernel_rfl
            case hQx34nd => exact fun _ _ _ h => h
            case hwx34nd => rfl
            case hyx34nd =>
              intro W hW
              have sq := SQ.out
              go_simp
              try with_reducible rfl
            simp only [Act.put, List.setIfInBounds_toArray, List.set_cons_succ, List.set_cons_zero]
            refine' wpAnyH_take (i := 35) ?h1x35nd ?hsx35nd ?hfx35nd ?hrx35nd ?hQx35nd (Or.inl ⟨?hwx35nd, ?hyx35nd⟩) hS ?restx35nd
            case h1x35nd => (simp only [List.getElem?_toArray, List.getElem?_cons_succ, List.getElem?_cons_zero]; rfl)
            case hsx35nd => kernel_rfl
            case hfx35nd => kernel_rfl
            case hrx35nd => kernel_rfl
            case hQx35nd => exact fun _ _ _ h => h
            case hwx35nd => rfl
            case hyx35nd =>
              intro W hW
              go_simp
              try with_reducible rfl
            simp only [Act.put, List.setIfInBounds_toArray, List.set_cons_succ, List.set_cons_zero]
            refine' wpAnyH_take (i := 36) ?h1x36nd ?hsx36nd ?hfx36nd ?hrx36nd ?hQx36nd (Or.inl ⟨?hwx36nd, ?hyx36nd⟩) hS ?restx36nd
            case h1x36nd => (simp only [List.getElem?_toArray, List.getElem?_cons_succ, List.getElem?_cons_zero]; rfl)
            case hsx36nd => kernel_rfl
            case hfx36nd => kernel_rfl
            case hrx36nd => kernel_rfl
            case hQx36nd => exact fun _ _ _ h => h
            case hwx36nd => rfl
            case hyx36nd =>
              intro W hW
              go_simp
              try with_reducible rfl
            simp only [Act.put, List.setIfInBounds_toArray, List.set_cons_succ, List.set_cons_zero]
            refine wpAnyH_done (by kernel_rfl) ?_ _
            clear hS
            go_wp2_with fail
            go_roundw
            case rel => exact ⟨i + 1, S5, _, by omega, by go_num, by rw [AX.out]; exact F6.out.1, by rw [AY.out]; exact F6.out.2.1, NS5.out, F6.out.2.2.1, F6.out.2.2.2.1, F6.out.2.2.2.2⟩
            case measure => simp [intOf]; omega
    · have hge : ¬ (i : Int) < (n : Int) := by omega
      have hin : i = n := by omega
      subst hin
      have LEN : Hid ((acc X i).length = (acc (fun j => X (i - 1 - j)) i).length) := acc_rev
      have MEM : Hid (∀ j, j < i → X j ∈ acc X i) := fun j hj => acc_mem.2 ⟨j, hj, rfl⟩
      have LTX : Hid ((acc X i).length ≤ 40) := by have := acc_len X i; have := HN40.out; show _ ≤ _; omega
      obtain ⟨Tx, hTx⟩ : ∃ Tx, Tx = acc X i := ⟨_, rfl⟩
      obtain ⟨Ty, hTy⟩ : ∃ Ty, Ty = acc (fun j => X (i - 1 - j)) i := ⟨_, rfl⟩
      rw [← hTx] at LX LEN MEM LTX
      rw [← hTy] at LY LEN
      clear hTx hTy
      go_wp2_with fail
      go_loopw [9] (fun vi wq => ∃ (j : Nat), j ≤ i ∧ vi = .int .i64 (j : Int) ∧ LG S wq g Tx ∧ LG U wq h Ty ∧ Below w.heap.size w wq) (fun vi _ => i - (intOf vi).toNat)
      case atStart => exact ⟨0, by omega, rfl, LX.out, LY.out, HBW.out⟩
      case round =>
        clear LX LY HBW
        obtain ⟨j, hj, rfl, hlx, hly, hbw⟩ := hrel
        have LX := Lib.hid hlx
        have LY := Lib.hid hly
        have HBW := Lib.hid hbw
        clear hlx hly hbw
        by_cases hlt : j < i
        · have hii : (j : Int) < (i : Int) := by omega
          obtain ⟨bb, oo, u, rfl, hcu, hsu⟩ := HROW.out j hlt
          have HLX := Lib.hid (HLN.out j hlt)
          have hme := MEM.out j hlt
          obtain ⟨x, hx⟩ : ∃ x, x = X j := ⟨_, rfl⟩
          rw [← hx] at hsu HLX hme
          have cu : wr.cell? ⟨bb, oo + j, none⟩ = some u := (HBW.out.cell (p := ⟨bb, oo + j, none⟩) (World.block_lt_of_cell? w _ hcu)).trans hcu
          obtain ⟨xu, cuu, rfl, hmx⟩ := hsu.form
          have HX := hasY S g Tx x (.slice xu x.length cuu) wr LX.out (by have := LTX.out; omega) (HGL.out.below HBW.out H2.out) hsu.1 (by have := HLX.out; omega) (hsu.below HBW.out)
          rw [decide_eq_true hme] at HX
          have HXX := Lib.hid HX
          clear hcu hsu hx hme HX
          go_wp2_with fail
          refine HXX.out.mono ?_
          rintro e w3 ⟨rfl, hb3⟩
          have B3 := Lib.hid (HBW.out.trans (hb3.mono HBW.out.size))
          have LX3 := Lib.hid (LX.out.below hb3)
          have LY3 := Lib.hid (LY.out.below hb3)
          clear hb3 cu HXX
          go_wp2_with fail
          go_roundw
          case rel => exact ⟨j + 1, by omega, by go_num, LX3.out, LY3.out, B3.out⟩
          case measure => simp [intOf]; omega
        · have hge2 : ¬ (j : Int) < (i : Int) := by omega
          have AL := Lib.hid (alive8 wr (HGL.out.below HBW.out H2.out))
          go_wp2_with fail
          refine AL.out.mono ?_
          rintro e w2 ⟨rfl, hb2⟩
          have B2 := Lib.hid (HBW.out.trans (hb2.mono HBW.out.size))
          have CA := countY S g Tx w2 (LX.out.below hb2)
          have CB := countY U h Ty w2 (LY.out.below hb2)
          rw [LEN.out] at CA
          have CAH := Lib.hid CA
          have CBH := Lib.hid CB
          clear hb2 AL CA CB
          go_wp2_with fail
          refine CAH.out.mono ?_
          rintro e w' ⟨rfl, rfl⟩
          go_wp2_with fail
          refine CBH.out.mono ?_
          rintro e w' ⟨rfl, rfl⟩
          go_wp2_with fail
          go_ret
          exact ⟨rfl, B2.out⟩
theorem weightsAll_mem {H : Type} {P : Program} {e : TypeId} : ∀ {l : List (DataW H)} {d : DataW H}, d ∈ l → ∀ m ∈ d.weights P e, m ∈ DataW.weightsAll P e l
  | [], _, hd, _, _ => by cases hd
  | d' :: r, d, hd, m, hm => by
    simp only [DataW.weightsAll, List.mem_append]
    rcases List.mem_cons.1 hd with rfl | h
    · exact .inl hm
    · exact .inr (weightsAll_mem h m hm)
/-- A row of a slice of slices takes no more than the form reaches. -/
theorem inner_le {H : Type} {ts : List TypeId} {ds : List (DataW H)} (h : (DataW.weightsEach Tryd.prog ts ds).all (· ≤ reachBytes) = true) {elems spare e' sp' : List (DataW H)}
    (ht : ts[0]? = some 22) (hd : ds[0]? = some (.slice elems spare)) (hx : DataW.slice e' sp' ∈ elems) : e'.length + sp'.length ≤ 140737488351232 := by
  have hb : Tryd.prog.bytesOf 5 = 1 := by kernel_rfl
  have := of_decide_eq_true (List.all_eq_true.1 h ((e'.length + sp'.length) * Tryd.prog.bytesOf 5) (DataW.weights_mem_each ht hd _ (by
    simp only [DataW.weights, Tryd.underlying22, List.mem_cons, List.mem_append]
    exact .inr (.inl (weightsAll_mem hx _ (by simp [DataW.weights, Tryd.underlying23]))))))
  rw [hb, show reachBytes = 140737488351232 from rfl] at this
  omega
theorem open_textsW {H : Type} {enc : TypeId × Value → H} {w : World} {r : Reach} {b0 base : Nat} {v : Value} {d : DataW H} {ps : List MemPlace} {ts : List TypeId} {ds : List (DataW H)}
    (hval : Value.okWide Tryd.prog w r b0 22 v) (hd : DataW.Trod enc Tryd.prog w base (fun _ => true) true 22 v d ps) (hsz : (DataW.weightsEach Tryd.prog ts ds).all (· ≤ reachBytes) = true) (ht : ts[0]? = some 22) (hds : ds[0]? = some d) :
    ∃ xss, SeesM w v xss ∧ ∀ i, i < xss.length → (xss.getD i []).length ≤ 140737488351232 := by
  obtain ⟨xss, hm⟩ := open_texts hval hd
  refine ⟨xss, hm, fun i hi => ?_⟩
  obtain ⟨fuel, hf⟩ := hd
  have hv : ∀ c : Value, v.cells.toList = [c] → (∃ x l k, c = .slice x l k) → v = c := by
    intro c hc ⟨x, l, k, hx⟩
    obtain ⟨x', l', k', rfl⟩ := okWide_slice Tryd.underlying22 hval
    simpa [Value.cells] using hc
  obtain ⟨x0, c0, hv0, _, hrow⟩ := form_m hm
  obtain ⟨bb, oo, u, rfl, hcu, hsu⟩ := hrow i hi
  rcases Deep.open_int_rows Tryd.underlying22 Tryd.underlying23 Tryd.underlying5 cells22 cells5 hf with ⟨hc, _⟩ | ⟨a, len, cap, A, L, C, Z, hc, _, hl, hm', hx, hcell⟩
  · have := hv _ hc ⟨_, _, _, rfl⟩
    rw [hv0] at this
    cases this
  · have hvv := hv _ hc ⟨_, _, _, rfl⟩
    rw [hv0] at hvv
    simp only [Value.slice.injEq, Option.some.injEq] at hvv
    obtain ⟨rfl, rfl, rfl⟩ := hvv
    obtain ⟨e1, e2, e3, e4, e5, e6, e7⟩ := hcell i (by omega)
    have e1' : w.cell? ⟨bb, oo + i, none⟩ = some (.slice (A i) (L i) (C i)) := by rw [← addr_add bb oo i]; exact e1
    rw [hcu] at e1'
    simp only [Option.some.injEq] at e1'
    subst e1'
    obtain ⟨xu, cu, hfu, _⟩ := hsu.form
    simp only [Value.slice.injEq] at hfu
    rw [← hfu.2.1]
    cases hA : A i with
    | none => have := e6 hA; omega
    | some a' =>
      have hd' : d = _ := (Prod.mk.inj hx).1
      rw [hd'] at hds
      have := inner_le hsz ht hds (e' := lits .u8 ((Z i).take (L i))) (sp' := lits .u8 ((Z i).drop (L i))) (List.mem_map.2 ⟨i, List.mem_range.2 hi, by simp [Deep.intRow, hA]⟩)
      simp only [lits, List.length_map, List.length_take, List.length_drop] at this
      omega
theorem walkI (xss : List (List Int)) (vl : Value) (w : World) (hG : Glob w) (hm : SeesM w vl xss) (hln : ∀ i, i < xss.length → (xss.getD i []).length ≤ 140737488351232) : Calls Tryd.prog 6 #[vl] w fun e w' => e = .returned (.bool true) ∧ Below w.heap.size w w' := by
  by_cases h : 40 < xss.length
  · obtain ⟨xl, cl, rfl, _⟩ := form_m hm
    exact walkBig xl _ cl w hG h
  · exact walk xss vl w hG hm hln (by omega)

set_option maxRecDepth 100000 in
theorem lifted (os : Os) (started : os.Started) (H : Type) (enc : TypeId × Value → H) :
    ReturnsInHanded {} Tryd.checked os 6 .any (fun w args => (Rows.hashlogStaysSpec.pre enc Tryd.prog Tryd.f6 [] false w args ∧ laidMetH Tryd.prog laid2 w) ∧ sizedMet enc Tryd.prog Tryd.f6 (OpenSpec.ofChange Rows.hashlogStaysSpec) false w args)
      (Rows.hashlogStaysSpec.post enc Tryd.prog Tryd.f6 false true false false) := by
  refine returnsInHanded_of_change_and (C := Tryd.checked) (X := fun w _ => laidMetH Tryd.prog laid2 w) (fun _ _ _ hh h => h.of_heap hh) own started (by kernel_rfl) Tryd.func6
    (ChangeSpec.witness_shaped (enc := enc) (C := Tryd.checked) (os := os) (X := fun w _ => laidMetH Tryd.prog laid2 w) false (World.doorLaid Tryd.prog 400 os) #[.slice none 0 0] 8 rfl (World.shaped_of_RefB (by kernel_rfl) (by kernel_rfl)) (by kernel_rfl) (by kernel_rfl) (by kernel_rfl) (door_met os _)) ?_
  intro W base args ds gs before hval0 hW _ hsz0 hL _
  have hval : ∀ (j : Nat) t v, Tryd.f6.params[j]? = some t → args[j]? = some v → Value.okWide Tryd.prog W .any base t v := hval0
  have hsz : (DataW.weightsEach Tryd.prog (Tryd.f6.params.toList ++ Rows.hashlogStaysSpec.plain.varTypes Tryd.prog) (ds ++ gs)).all (· ≤ reachBytes) = true := hsz0
  clear hsz0
  have hW' := hW
  obtain ⟨p, q, hA0, hV, rfl, hfz, hnd⟩ := hW
  have hA : DataW.TrodAll enc Tryd.prog W 0 (fun _ => true) true Tryd.f6.params.toList args.toList ds p := hA0
  rw [Tryd.params6] at hA hval hsz
  obtain ⟨v0, vs0, d0, ds0, p0, q0, hargs, rfl, rfl, h0, r0⟩ := trodAll_cons hA
  obtain ⟨rfl, rfl, rfl⟩ := trodAll_nil r0
  obtain rfl : args = #[v0] := by cases args; simp_all
  obtain ⟨rfl, rfl⟩ := trodVars_none hV
  obtain ⟨x0, s0, l0⟩ := open_textsW (hval 0 22 v0 rfl rfl) h0 hsz rfl rfl
  refine (walkI x0 v0 W (of_laid hL) s0 l0).mono fun e W' ⟨he, hb⟩ => ?_
  subst he
  exact ⟨_, rfl, law_post hW' rfl rfl rfl (by kernel_rfl) hb⟩
/-- The row's statement. -/
theorem row_holds : Rows.HashlogStaysSaid :=
  OpenClaim.holds_of_wide 6 Tryd.f6 rfl rfl rfl rfl rfl rfl rfl ⟨rfl, rfl, rfl, rfl, rfl⟩ rfl rfl rfl rfl rfl (by kernel_rfl) Tryd.func6 (by kernel_rfl)
    (of_decide_eq_true (by kernel_rfl)) (by unfold Func.isWrapper; first | (rw [if_pos (by decide +kernel)]; kernel_rfl) | (rw [if_neg (by decide +kernel)]; exact ⟨rfl, rfl⟩))
    (fun os started H enc _ => lifted os started H enc)
/-- The tied card. -/
theorem proved : Rows.HashlogStaysCardSaid :=
  Claim7.holds_tied_plain_at .later [] [.data, .data] true (true, "d480036ef970937bd262da45ca70bea84650359a340a4447fa45a1141bb94ffb") false
    row_holds (fun _ h => by cases h) (by kernel_rfl) (fun _ h => by cases h) hashlogStays_row_tie rfl ⟨rfl, rfl⟩ (by kernel_rfl) rfl
    (fun f fn hf hfn => by
      obtain rfl : f = 6 := Option.some.inj ((show Tryd.prog.funcNamed "casemate/casematelaw08.HashlogStays" = some 6 by kernel_rfl).symm.trans hf) |>.symm
      obtain rfl : fn = Tryd.f6 := (Option.some.inj (Tryd.func6.symm.trans hfn)).symm
      exact ⟨by kernel_rfl, fun j t ht => by
        rw [Tryd.params6] at ht
        have hm : t ∈ [22] := by simpa using Array.mem_of_getElem? ht
        have hall : ([22].all fun u => !Tryd.prog.wantsStandIn u) = true := by kernel_rfl
        exact (show Tryd.prog.wantsStandIn t = false by simpa using List.all_eq_true.1 hall t hm)⟩)
    (by kernel_rfl)
#print axioms proved
end Go.Proofs.YtboaceabimlodaaDoor.hashlogStays
