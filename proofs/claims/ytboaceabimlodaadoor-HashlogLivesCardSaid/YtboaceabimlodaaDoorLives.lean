/-
  For all texts the law HashlogLives of package casematelaw08 returns true, and they read afterwards as before: a log tells the sums, what it has and its clash as the document's does. Condition: the two tables hold what their initialisers lay (the row's premise).
-/
import Derived.Test.YtboaceabimlodaaDoorDC
namespace Go.Proofs.YtboaceabimlodaaDoor.hashlogLives
open Go.ChangeShapes Go.WideShapes Go.ChangeAt Go.RowKit
theorem form_m {w : World} {v : Value} {xss : List (List Int)} (h : SeesM w v xss) : ∃ x c, v = .slice x xss.length c ∧ xss.length ≤ 9223372036854775807 ∧ ∀ i, i < xss.length → ∃ b o u, x = some ⟨b, o, none⟩ ∧ w.cell? ⟨b, o + i, none⟩ = some u ∧ Sees w u (xss.getD i []) := by
  rcases h with ⟨x, c, rfl, rfl⟩ | ⟨b, o, c, rfl, _, h1, _, h2⟩
  · exact ⟨x, c, rfl, by simp, fun i hi => by simp at hi⟩
  · refine ⟨_, c, rfl, by unfold maxLen at h1; omega, fun i hi => ?_⟩
    obtain ⟨u, e1, e2⟩ := h2 i hi
    exact ⟨b, o, u, rfl, e1, e2⟩
/-- A block of bytes, whatever they are. -/
def WR (w : World) (q n : Nat) : Prop := ∃ cs, w.heap[q]? = some (.cells cs 5 (0, 0)) ∧ ∀ j, j < n → ∃ y, cs[j]? = some (.int .u8 y)
theorem WR.same {w w' : World} {q n : Nat} (h : WR w q n) (e : w'.heap[q]? = w.heap[q]?) : WR w' q n := by
  obtain ⟨cs, h1, h2⟩ := h
  exact ⟨cs, by rw [e]; exact h1, h2⟩
theorem WR.set {w : World} {q n k : Nat} (h : WR w q n) (y : Int) : WR (w.setCell ⟨q, k, none⟩ (.int .u8 y)) q n := by
  obtain ⟨cs, h1, h2⟩ := h
  refine ⟨_, heap_setCell_same _ _ _ _ _ _ h1, fun j hj => ?_⟩
  obtain ⟨y0, e⟩ := h2 j hj
  by_cases hk : k = j
  · subst hk
    have hl : k < cs.size := (Array.getElem?_eq_some_iff.1 e).1
    exact ⟨y, by rw [Array.getElem?_setIfInBounds_self_of_lt hl]⟩
  · exact ⟨y0, by rw [Array.getElem?_setIfInBounds_ne hk]; exact e⟩
theorem own_wr {w : World} {base n co : Nat} {xo : Option Addr} {x : List Int} (h : Own w base (.slice xo n co) x) (hn : n = x.length) (hz : base < w.heap.size) :
    ∃ q, (0 < n → xo = some ⟨q, 0, none⟩ ∧ WR w q n) ∧ base ≤ q ∧ q < w.heap.size ∧ (∀ q', (Value.slice xo n co).ownBlock = some q' → q' = q) := by
  subst hn
  obtain ⟨hb, hl, ⟨e, e4⟩ | ⟨g, cap, cur, e, hbg, hg, hn, hm, hsz, ht⟩⟩ := h
  · refine ⟨base, fun h0 => by omega, Nat.le_refl _, hz, fun q' e2 => ?_⟩
    rw [e] at e2
    simp [Value.ownBlock] at e2
  · simp only [Value.slice.injEq] at e
    refine ⟨g, fun _ => ⟨e.1, cur, hg, fun j hj => ?_⟩, hbg, blk_lt hg, fun q' e2 => ?_⟩
    · have e3 : (x.map (Value.int .u8))[j]? = some (.int .u8 x[j]) := by rw [List.getElem?_map, List.getElem?_eq_getElem hj]; rfl
      rw [← ht, List.getElem?_take_of_lt (by omega)] at e3
      exact ⟨x[j], by simpa using e3⟩
    · rw [e.1] at e2
      simpa [Value.ownBlock] using e2.symm
theorem sees_row {w : World} {r : Nat} {A : List Int} (h : w.heap[r]? = some (.cells (bcells A) 31 (0, 0))) (hA : Byt A) (hl : A.length = 32) : Sees w (.slice (some ⟨r, 0, none⟩) 32 32) A := by
  refine ⟨hA, .inr (.inr ⟨r, 0, 32, by rw [hl], fun e => by rw [e] at hl; simp at hl, by omega, by unfold maxLen; omega, fun i hi => ?_⟩)⟩
  rw [cell_of_row _ _ _ _ _ _ h, Nat.zero_add]
  simp [bcells, nth, List.getD, hi]
set_option maxRecDepth 100000 in
set_option maxHeartbeats 4000000 in
theorem walkBig (xl xa : Option Addr) (n L cl ca : Nat) (w : World) (hG : Glob w) (h : 40 < n ∨ 300 < L) : Calls Tryd.prog 3 #[.slice xl n cl, .slice xa L ca] w fun e w' => e = .returned (.bool true) ∧ Below w.heap.size w w' := by
  have AL := Lib.hid (alive8 w hG)
  by_cases h1 : (40 : Int) < (n : Int)
  · clear h hG
    go_enter Tryd.func3, Tryd.ntmps3
    go_wp2_with fail
    refine AL.out.mono ?_
    rintro e w1 ⟨rfl, hb⟩
    go_wp2_with fail
    go_ret
    exact ⟨rfl, hb⟩
  · have h2 : (300 : Int) < (L : Int) := by omega
    clear h hG
    go_enter Tryd.func3, Tryd.ntmps3
    go_wp2_with fail
    refine AL.out.mono ?_
    rintro e w1 ⟨rfl, hb⟩
    go_wp2_with fail
    go_ret
    exact ⟨rfl, hb⟩
set_option maxRecDepth 100000 in
set_option maxHeartbeats 8000000 in
theorem walk (xss : List (List Int)) (a : List Int) (vl : Value) (xa : Option Addr) (L ca : Nat) (w : World) (hG : Glob w) (hm : SeesM w vl xss) (ha : Sees w (.slice xa L ca) a) (hLa : L = a.length) (hn40 : xss.length ≤ 40) (hl : L ≤ 300) :
    Calls Tryd.prog 3 #[vl, .slice xa L ca] w fun e w' => e = .returned (.bool true) ∧ Below w.heap.size w w' := by
  obtain ⟨xl, cl, rfl, _, hrow⟩ := form_m hm
  obtain ⟨n, hn⟩ : ∃ n, n = xss.length := ⟨_, rfl⟩
  rw [← hn] at hrow hn40 ⊢
  have g1 : ¬ (40 : Int) < (n : Int) := by omega
  have g2 : ¬ (300 : Int) < (L : Int) := by omega
  have z27 := zv27
  obtain ⟨Z27, hZ27⟩ : ∃ Z, Z = bcells (List.replicate 32 0) := ⟨_, rfl⟩
  rw [← hZ27] at z27
  have H2 : Hid (2 ≤ w.heap.size) := by have := hG.lt; show 2 ≤ _; omega
  have HGL := Lib.hid hG
  have HROW := Lib.hid hrow
  have HSA := Lib.hid ha
  have HLA : Hid (a.length ≤ 300) := by show _ ≤ _; omega
  have HN40 := Lib.hid hn40
  have HZ27 := Lib.hid hZ27
  clear hG hm ha hLa hrow hZ27 hn hn40 hl
  go_enter Tryd.func3, Tryd.ntmps3
  go_wp2_with fail
  refine (newL _ H2.out).mono ?_
  rintro e w1 ⟨g, rfl, hl1, hge, hb1⟩
  have L1 := Lib.hid hl1
  have B1 := Lib.hid hb1
  clear hl1 hge hb1
  go_wp2_with fail
  obtain ⟨w2, hw2⟩ : ∃ w2, w2 = w1.alloc (.cells #[.slice none 0 0] 29) := ⟨_, rfl⟩
  obtain ⟨h, hh⟩ : ∃ h, h = w1.heap.size := ⟨_, rfl⟩
  have b12 : Below w1.heap.size w1 w2 := by rw [hw2]; exact (Below.refl _ _).alloc (Nat.le_refl _) _
  have D2 : Hid (DL (fun q => q = h) w2 h []) := by rw [hh, hw2]; exact dl_new w1 (Nat.le_trans H2.out B1.out.size)
  have L2 := Lib.hid (L1.out.below b12)
  have B2 := Lib.hid (B1.out.trans (b12.mono B1.out.size))
  have N2 : Hid (∀ q, q = h → w.heap.size ≤ q) := fun q e => by
    have := B1.out.size
    omega
  have DS2 : Hid (∀ q, (w.heap.size ≤ q ∧ q < w.heap.size + 2) → ¬ q = h) := fun q h1 h2 => by
    have := (L1.out.own q h1).2
    omega
  rw [← hw2, ← hh]
  clear hw2 hh b12 L1 B1
  go_loopw [7] (fun vi wr => ∃ (i : Nat) (S U : Nat → Prop) (T : List (List Int)), i ≤ n ∧ vi = .int .i64 (i : Int) ∧ LG S wr g T ∧ DL U wr h T ∧ (∀ q, S q → w.heap.size ≤ q) ∧ (∀ q, U q → w.heap.size ≤ q) ∧ (∀ q, S q → ¬ U q) ∧ T.length ≤ i ∧ Below w.heap.size w wr) (fun vi _ => n - (intOf vi).toNat)
  case atStart => exact ⟨0, _, _, [], by omega, rfl, L2.out, D2.out, fun q hq => hq.1, N2.out, DS2.out, by simp, B2.out⟩
  case round =>
    clear L2 D2 B2 N2 DS2
    obtain ⟨i, S, U, T, hi, rfl, hlx, hly, hS, hU, hSU, hT, hbw⟩ := hrel
    have LX := Lib.hid hlx
    have LY := Lib.hid hly
    have HS := Lib.hid hS
    have HU := Lib.hid hU
    have HSU := Lib.hid hSU
    have HT := Lib.hid hT
    have HBW := Lib.hid hbw
    clear hlx hly hS hU hSU hbw hT
    by_cases hlt : i < n
    · have hii : (i : Int) < (n : Int) := by omega
      obtain ⟨bb, oo, u, rfl, hcu, hsu⟩ := HROW.out i hlt
      obtain ⟨x, hx⟩ : ∃ x, x = xss.getD i [] := ⟨_, rfl⟩
      rw [← hx] at hsu
      clear hx
      have cu : wr.cell? ⟨bb, oo + i, none⟩ = some u := (HBW.out.cell (p := ⟨bb, oo + i, none⟩) (World.block_lt_of_cell? w _ hcu)).trans hcu
      have CI := Lib.hid hcu
      have HSUX := Lib.hid hsu
      obtain ⟨xu, cuu, rfl, hmx⟩ := hsu.form
      have LBB := Lib.hid (World.block_lt_of_cell? w _ hcu)
      obtain ⟨lu, hlu⟩ : ∃ lu, lu = x.length := ⟨_, rfl⟩
      rw [← hlu] at HSUX hmx cu CI
      have HLU := Lib.hid hlu
      have CU := Lib.hid cu
      clear hcu hlu hsu cu
      by_cases h3 : (300 : Int) < (lu : Int)
      · have AL := Lib.hid (alive8 wr (HGL.out.below HBW.out H2.out))
        have cu := CU.out
        go_wp2_with fail
        refine AL.out.mono ?_
        rintro e w2 ⟨rfl, hb2⟩
        have B2 := Lib.hid (HBW.out.trans (hb2.mono HBW.out.size))
        clear hb2 cu
        go_wp2_with fail
        go_ret
        exact ⟨rfl, B2.out⟩
      · have b0 : Below wr.heap.size wr (wr.alloc (.cells #[] 5)) := (Below.refl _ _).alloc (Nat.le_refl _) _
        have own0 : Own (wr.alloc (.cells #[] 5)) wr.heap.size (.slice (some ⟨wr.heap.size, 0, none⟩) 0 0) [] := ⟨fun _ h => by simp at h, rfl, .inr ⟨wr.heap.size, 0, #[], rfl, Nat.le_refl _, heap_alloc_new wr _, Nat.le_refl _, by decide, rfl, rfl⟩⟩
        obtain ⟨xo, co, w2, hr, ho, hg, hb⟩ := appW own0 ((HSUX.out.below HBW.out).below b0) (by have := HLU.out; show 0 + x.length ≤ _; omega) (by simp)
        simp only [List.length_nil, Nat.zero_add, List.nil_append] at hr ho
        rw [← HLU.out] at hr ho
        have HR := Lib.hid hr
        have B12 := Lib.hid (b0.trans hb)
        have SZ2 : Hid (wr.heap.size < w2.heap.size) := by have := hb.size; simp at this; show _ < _; omega
        obtain ⟨q, hq1, hq2, hq3, hq4⟩ := own_wr ho HLU.out SZ2.out
        have Q1 := Lib.hid hq1
        have Q2 := Lib.hid hq2
        have Q3 := Lib.hid hq3
        have Q4 := Lib.hid hq4
        have SO := Lib.hid ho.sees
        have BO2 := Lib.hid (HBW.out.trans (B12.out.mono HBW.out.size))
        have LX2 := Lib.hid (LX.out.below B12.out)
        have LY2 := Lib.hid (LY.out.below B12.out)
        have SLT : Hid (∀ j, S j → j < wr.heap.size) := fun j hj => (LX.out.own j hj).2
        have ULT : Hid (∀ j, U j → j < wr.heap.size) := fun j hj => (LY.out.own j hj).2
        have CU0 : Hid ((wr.alloc (.cells #[] 5)).cell? ⟨bb, oo + i, none⟩ = some (.slice xu lu cuu)) := (b0.cell (p := ⟨bb, oo + i, none⟩) (Nat.lt_of_lt_of_le LBB.out HBW.out.size)).trans CU.out
        have SM := Lib.hid (sumY S g T x (.slice xo lu co) w2 LX2.out (fun j n0 e hs => by
          have h1 := Q4.out j e
          have h2 := SLT.out j hs
          have := Q2.out
          omega) (by have := HT.out; have := HN40.out; omega) (HGL.out.below BO2.out H2.out) HSUX.out.1 (by have := HLU.out; omega) SO.out)
        have cu := CU.out
        have cu0 := CU0.out
        clear hr ho hg hb own0 b0 hq1 hq2 hq3 hq4
        go_wp2_with (at_builtin; refine wpList_appT 23 rfl _ _ rfl rfl rfl rfl HR.out ?_)
        obtain ⟨A, hA⟩ : ∃ A, A = sha x := ⟨_, rfl⟩
        have lA : A.length = 32 := by rw [hA]; exact sha_len _ HSUX.out.1
        have bA : Byt A := by rw [hA]; exact sha_byt _
        have iA : Hid ((Tryd.prog.info? 31).map (·.size) = some (bcells A).size) := by show _ = _; rw [i27, bsize, lA]
        have zA : Hid (Z27.size = (bcells A).size) := by show _ = _; rw [HZ27.out, bsize, bsize, lA, List.length_replicate]
        have oA := Lib.hid (bone A)
        have HA := Lib.hid hA
        have LAH := Lib.hid lA
        have BAH := Lib.hid bA
        clear hA lA bA cu0 cu CU CU0 LX LY HR
        refine SM.out.mono ?_
        rintro e w3 ⟨rfl, hl3, hm3⟩
        rw [← HA.out]
        have zn := Lib.hid (heap_alloc_new w3 (.cells Z27 31))
        obtain ⟨w4, hw4⟩ : ∃ w4, w4 = (w3.alloc (.cells Z27 31)).setRow w3.heap.size (bcells A) := ⟨_, rfl⟩
        have b34 : Below w3.heap.size w3 w4 := by
          rw [hw4]
          exact ((Below.refl _ _).alloc (Nat.le_refl _) _).trans (below_row _ _ (Nat.le_refl _))
        have BO3 := Lib.hid (hm3.below BO2.out BO2.out.size HS.out)
        have BO4 : Hid (Below w.heap.size w w4) := BO3.out.trans (b34.mono BO3.out.size)
        have R4 : Hid (w4.heap[w3.heap.size]? = some (.cells (bcells A) 31 (0, 0))) := by rw [hw4]; exact setRow_heap _ _ _ _ _ _ zn.out
        have LX4 := Lib.hid (hl3.below b34)
        have LY4 : Hid (DL U w4 h T) := (LY2.out.mods hm3 (fun j h1 h2 => HSU.out j h2 h1)).below b34
        obtain ⟨S4, hS4⟩ : ∃ S4 : Nat → Prop, S4 = fun j => S j ∨ w2.heap.size ≤ j ∧ j < w3.heap.size := ⟨_, rfl⟩
        rw [← hS4] at LX4
        have SZ23 : Hid (w2.heap.size ≤ w3.heap.size) := hm3.size
        have SZ34 : Hid (w3.heap.size < w4.heap.size) := blk_lt R4.out
        have NS4 : Hid (∀ j, S4 j → w.heap.size ≤ j ∧ j ≠ q ∧ ¬ U j ∧ j < w3.heap.size) := fun j hj => by
          rw [hS4] at hj
          have h2 := Q2.out
          have h3 := Q3.out
          have h4 := SZ23.out
          rcases hj with hj | hj
          · have h5 := SLT.out j hj
            exact ⟨HS.out j hj, by omega, HSU.out j hj, by omega⟩
          · have h6 := BO2.out.size
            exact ⟨by omega, by omega, fun h2 => by have := ULT.out j h2; have := SZ2.out; omega, hj.2⟩
        have WR4 : Hid (0 < lu → xo = some ⟨q, 0, none⟩ ∧ WR w4 q lu) := fun h0 => by
          obtain ⟨e1, e2⟩ := Q1.out h0
          have h2 := Q2.out
          have h3 := Q3.out
          have h4 := SZ23.out
          refine ⟨e1, e2.same ?_⟩
          rw [b34.block q (by omega), hm3.block q h3 (fun hs => by have := SLT.out q hs; omega)]
        have HW4 := Lib.hid hw4
        clear hl3 hm3 hw4 b34 hS4 SM LX2 LY2 SO
        go_wp2_with (refine wpList_store_row rfl 31 (.tmp 9) (.tmp 50) rfl w3.heap.size (bcells A) rfl rfl 31 Z27 zn.out iA.out zA.out oA.out ?_)
        rw [← HW4.out]
        clear HW4 zn
        go_loopw [10] (fun vk wz => ∃ k : Nat, k ≤ lu ∧ vk = .int .i64 (k : Int) ∧ (0 < lu → WR wz q lu) ∧ Mods (fun j => j = q) w4 wz) (fun vk _ => lu - (intOf vk).toNat)
        case atStart => exact ⟨0, by omega, rfl, fun h0 => (WR4.out h0).2, Mods.refl _ _⟩
        case round =>
          obtain ⟨k, hk, rfl, hwr, hmz⟩ := hrel
          by_cases hkl : k < lu
          · have hkk : (k : Int) < (lu : Int) := by omega
            obtain ⟨rfl, _⟩ := WR4.out (by omega)
            have HWR := Lib.hid (hwr (by omega))
            have HMZ := Lib.hid hmz
            obtain ⟨cs, e1, e2⟩ := hwr (by omega)
            obtain ⟨y, e3⟩ := e2 k hkl
            have cy := (cell_of_row wr q k _ _ _ e1).trans e3
            have fz := frozen_of_row wr q k _ 5 e1
            clear hwr hmz e1 e2 e3
            go_wp2_with fail
            go_roundw
            case rel => exact ⟨k + 1, by omega, by go_num, fun _ => HWR.out.set _, HMZ.out.trans (T := fun j => j = q) (Mods.set _ ⟨q, k, none⟩ _ rfl) (fun j e => .inl e)⟩
            case measure => simp [intOf]; omega
          · have hge : ¬ (k : Int) < (lu : Int) := by omega
            have HMZ := Lib.hid hmz
            clear hwr hmz
            obtain ⟨w5, hw5⟩ : ∃ w5, w5 = wr := ⟨_, rfl⟩
            rw [← hw5] at HMZ ⊢
            clear hw5
            have hw3q : w3.heap.size ≠ q := by have := Q3.out; have := SZ23.out; omega
            have BO5 : Hid (Below w.heap.size w w5) := HMZ.out.below BO4.out BO4.out.size (fun j e => by have e' : j = q := e; rw [e']; exact Nat.le_trans HBW.out.size Q2.out)
            have R5 : Hid (w5.heap[w3.heap.size]? = some (.cells (bcells A) 31 (0, 0))) := (HMZ.out.block _ SZ34.out hw3q).trans R4.out
            have LX5 : Hid (LG S4 w5 g (addT T x)) := LX4.out.mods HMZ.out (fun j h1 h2 => (NS4.out j h1).2.1 h2)
            have LY5 : Hid (DL U w5 h T) := LY4.out.mods HMZ.out (fun j h1 h2 => by
              have h2' : j = q := h2
              have := ULT.out j h1
              have := Q2.out
              omega)
            have SZ45 : Hid (w4.heap.size ≤ w5.heap.size) := HMZ.out.size
            have b5d : Below w5.heap.size w5 w5.drew := (Below.refl _ _).drew
            have SY := Lib.hid (sumDL U h T x (.slice xu lu cuu) w5.drew (LY5.out.below b5d) (fun j n0 e hs => by
              have h1 := HSUX.out.lt j n0 e
              have h2 := HU.out j hs
              omega) (by have := HT.out; have := HN40.out; omega) (HSUX.out.below (BO5.out.trans (b5d.mono BO5.out.size))) (by have := HLU.out; omega))
            have RW6 : Hid (∀ w6 : World, Mods U w5.drew w6 → Below w.heap.size w w6 ∧ w6.heap[w3.heap.size]? = some (.cells (bcells A) 31 (0, 0))) := fun w6 hm =>
              ⟨hm.below BO5.out.drew (Nat.le_trans BO5.out.size b5d.size) HU.out, (hm.block _ (Nat.lt_of_lt_of_le SZ34.out (Nat.le_trans SZ45.out b5d.size)) (fun hq => by have := ULT.out _ hq; have := SZ2.out; have := SZ23.out; omega)).trans R5.out⟩
            have LEN6 : Hid ((addT T x).length ≤ i + 1) := by
              have := HT.out
              have h5 := addT_len T x
              show _ ≤ _
              rw [h5]
              split <;> omega
            have FIN : Hid (∀ w6 w8 : World, DL (fun j => U j ∨ w5.drew.heap.size ≤ j ∧ j < w6.heap.size) w6 h (addT T x) → Mods U w5.drew w6 → Below w6.heap.size w6 w8 →
                LG S4 w8 g (addT T x) ∧ DL (fun j => U j ∨ w5.drew.heap.size ≤ j ∧ j < w6.heap.size) w8 h (addT T x) ∧ (∀ j, (U j ∨ w5.drew.heap.size ≤ j ∧ j < w6.heap.size) → w.heap.size ≤ j) ∧ (∀ j, S4 j → ¬ (U j ∨ w5.drew.heap.size ≤ j ∧ j < w6.heap.size)) ∧ Below w.heap.size w w8) := fun w6 w8 hl hm hb =>
              ⟨((LX5.out.below b5d).mods hm (fun j h1 h2 => (NS4.out j h1).2.2.1 h2)).below hb, hl.below hb, fun j hq => by
                have := BO5.out.size
                have := b5d.size
                rcases hq with hq | hq
                · exact HU.out j hq
                · omega, fun j hq h2 => by
                have h3 := (NS4.out j hq).2.2
                have := SZ34.out
                have := SZ45.out
                have := b5d.size
                rcases h2 with h2 | h2
                · exact h3.1 h2
                · omega, (RW6.out w6 hm).1.trans (hb.mono (RW6.out w6 hm).1.size)⟩
            have LX6 : Hid (∀ w6 : World, Mods U w5.drew w6 → LG S4 w6 g (addT T x)) := fun w6 hm => (LX5.out.below b5d).mods hm (fun j h1 h2 => (NS4.out j h1).2.2.1 h2)
            have LT41 : Hid ((addT T x).length ≤ 41) := by have := LEN6.out; have := HN40.out; show _ ≤ _; omega
            have SQ0 := Lib.hid (str_eq BAH.out BAH.out)
            have SQ : Hid (((strOfNums A).toList == (strOfNums A).toList) = true) := by show _ = _; rw [SQ0.out]; exact decide_eq_true rfl
            obtain ⟨bit, hbit⟩ : ∃ bit, bit = decide (a ∈ addT T x) := ⟨_, rfl⟩
            have HBIT := Lib.hid hbit
            clear hbit SQ0 b5d hw3q LX4 LY4 R4 LX5 LY5 HMZ WR4
            go_wp2_with fail
            refine wp_region_held_drew (S := fun W => Below w.heap.size w W ∧ W.heap[w3.heap.size]? = some (.cells (bcells A) 31 (0, 0))) (by kernel_rfl) ⟨BO5.out.drew, R5.out⟩ (fun hS => ?_)
            refine' wpAnyH_take (i := 0) ?h1x0r ?hsx0r ?hfx0r ?hrx0r ?hQx0r (Or.inl ⟨?hwx0r, ?hyx0r⟩) hS ?restx0r
            case h1x0r => (simp only [List.getElem?_toArray, List.getElem?_cons_zero]; rfl)
            case hsx0r => kernel_rfl
            case hfx0r => kernel_rfl
            case hrx0r => kernel_rfl
            case hQx0r => exact fun _ _ _ h => h
            case hwx0r => rfl
            case hyx0r =>
              intro W hW
              go_simp
              try with_reducible rfl
            simp only [Act.put, List.setIfInBounds_toArray, List.set_cons_succ, List.set_cons_zero]
            refine' wpAnyH_take (i := 1) ?h1x1r ?hsx1r ?hfx1r ?hrx1r ?hQx1r (Or.inl ⟨?hwx1r, ?hyx1r⟩) hS ?restx1r
            case h1x1r => (simp only [List.getElem?_toArray, List.getElem?_cons_succ, List.getElem?_cons_zero]; rfl)
            case hsx1r => kernel_rfl
            case hfx1r => kernel_rfl
            case hrx1r => kernel_rfl
            case hQx1r => exact fun _ _ _ h => h
            case hwx1r => rfl
            case hyx1r =>
              intro W hW
              have st := (sees_row hW.2 BAH.out LAH.out).str
              go_simp
              try with_reducible rfl
            simp only [Act.put, List.setIfInBounds_toArray, List.set_cons_succ, List.set_cons_zero]
            refine' wpAnyH_take (i := 2) ?h1x2r ?hsx2r ?hfx2r ?hrx2r ?hQx2r (Or.inl ⟨?hwx2r, ?hyx2r⟩) hS ?restx2r
            case h1x2r => (simp only [List.getElem?_toArray, List.getElem?_cons_succ, List.getElem?_cons_zero]; rfl)
            case hsx2r => kernel_rfl
            case hfx2r => kernel_rfl
            case hrx2r => kernel_rfl
            case hQx2r => exact fun _ _ _ h => h
            case hwx2r => rfl
            case hyx2r =>
              intro W hW
              go_simp
              try with_reducible rfl
            simp only [Act.put, List.setIfInBounds_toArray, List.set_cons_succ, List.set_cons_zero]
            refine' wpAnyH_take (i := 3) ?h1x3r ?hsx3r ?hfx3r ?hrx3r ?hQx3r (Or.inl ⟨?hwx3r, ?hyx3r⟩) hS ?restx3r
            case h1x3r => (simp only [List.getElem?_toArray, List.getElem?_cons_succ, List.getElem?_cons_zero]; rfl)
            case hsx3r => kernel_rfl
            case hfx3r => kernel_rfl
            case hrx3r => kernel_rfl
            case hQx3r => exact fun _ _ _ h => h
            case hwx3r => rfl
            case hyx3r =>
              intro W hW
              go_simp
              try with_reducible rfl
            simp only [Act.put, List.setIfInBounds_toArray, List.set_cons_succ, List.set_cons_zero]
            refine' wpAnyH_take (i := 4) ?h1x4r ?hsx4r ?hfx4r ?hrx4r ?hQx4r (Or.inl ⟨?hwx4r, ?hyx4r⟩) hS ?restx4r
            case h1x4r => (simp only [List.getElem?_toArray, List.getElem?_cons_succ, List.getElem?_cons_zero]; rfl)
            case hsx4r => kernel_rfl
            case hfx4r => kernel_rfl
            case hrx4r => kernel_rfl
            case hQx4r => exact fun _ _ _ h => h
            case hwx4r => rfl
            case hyx4r =>
              intro W hW
              go_simp
              try with_reducible rfl
            simp only [Act.put, List.setIfInBounds_toArray, List.set_cons_succ, List.set_cons_zero]
            refine' wpAnyH_take (i := 5) ?h1x5r ?hsx5r ?hfx5r ?hrx5r ?hQx5r (Or.inl ⟨?hwx5r, ?hyx5r⟩) hS ?restx5r
            case h1x5r => (simp only [List.getElem?_toArray, List.getElem?_cons_succ, List.getElem?_cons_zero]; rfl)
            case hsx5r => kernel_rfl
            case hfx5r => kernel_rfl
            case hrx5r => kernel_rfl
            case hQx5r => exact fun _ _ _ h => h
            case hwx5r => rfl
            case hyx5r =>
              intro W hW
              go_simp
              try with_reducible rfl
            simp only [Act.put, List.setIfInBounds_toArray, List.set_cons_succ, List.set_cons_zero]
            refine' wpAnyH_take (i := 6) ?h1x6r ?hsx6r ?hfx6r ?hrx6r ?hQx6r (Or.inl ⟨?hwx6r, ?hyx6r⟩) hS ?restx6r
            case h1x6r => (simp only [List.getElem?_toArray, List.getElem?_cons_succ, List.getElem?_cons_zero]; rfl)
            case hsx6r => kernel_rfl
            case hfx6r => kernel_rfl
            case hrx6r => kernel_rfl
            case hQx6r => exact fun _ _ _ h => h
            case hwx6r => rfl
            case hyx6r =>
              intro W hW
              have cu := (hW.1.cell (p := ⟨bb, oo + i, none⟩) LBB.out).trans CI.out
              go_simp
              try with_reducible rfl
            simp only [Act.put, List.setIfInBounds_toArray, List.set_cons_succ, List.set_cons_zero]
            refine wpAnyH_ready (rs := [7]) (by kernel_rfl) (by simp) ?_
            refine' AllReadyH.cons ?hoc7r (fun K hK => ?stc7r) AllReadyH.nil
            case hoc7r => (simp only [List.getElem?_toArray, List.getElem?_cons_succ, List.getElem?_cons_zero]; rfl)
            go_simp
            refine (SY.out).mono ?_
            rintro e w6 ⟨xr, cr, rfl, hsr, hl6, hm6⟩
            rw [← HA.out] at hsr ⊢
            have R6 := Lib.hid (RW6.out w6 hm6)
            have LG6 := Lib.hid (LX6.out w6 hm6)
            have DL6 := Lib.hid hl6
            have MM6 := Lib.hid hm6
            have SR6 := Lib.hid hsr
            clear hl6 hm6 hsr
            go_wp2_with fail
            refine hK.out _ _ R6.out (fun hHeld => ?_)
            clear hK K
            try simp only [Act.put, List.setIfInBounds_toArray, List.set_cons_succ, List.set_cons_zero]
            clear hS
            have hS := hHeld
            clear hHeld
            refine wpAnyH_ready (rs := [8]) (by kernel_rfl) (by simp) ?_
            refine' AllReadyH.cons ?hoc8r (fun K hK => ?stc8r) AllReadyH.nil
            case hoc8r => (simp only [List.getElem?_toArray, List.getElem?_cons_succ, List.getElem?_cons_zero]; rfl)
            have st := SR6.out.str
            go_simp
            refine hK.out _ _ R6.out (fun hHeld => ?_)
            clear hK K
            try simp only [Act.put, List.setIfInBounds_toArray, List.set_cons_succ, List.set_cons_zero]
            clear hS
            have hS := hHeld
            clear hHeld
            clear st
            refine' wpAnyH_take (i := 9) ?h1x9r ?hsx9r ?hfx9r ?hrx9r ?hQx9r (Or.inl ⟨?hwx9r, ?hyx9r⟩) hS ?restx9r
            case h1x9r => (simp only [List.getElem?_toArray, List.getElem?_cons_succ, List.getElem?_cons_zero]; rfl)
            case hsx9r => kernel_rfl
            case hfx9r => kernel_rfl
            case hrx9r => kernel_rfl
            case hQx9r => exact fun _ _ _ h => h
            case hwx9r => rfl
            case hyx9r =>
              intro W hW
              have sq := SQ.out
              go_simp
              try with_reducible rfl
            simp only [Act.put, List.setIfInBounds_toArray, List.set_cons_succ, List.set_cons_zero]
            refine' wpAnyH_take (i := 10) ?h1x10r ?hsx10r ?hfx10r ?hrx10r ?hQx10r (Or.inl ⟨?hwx10r, ?hyx10r⟩) hS ?restx10r
            case h1x10r => (simp only [List.getElem?_toArray, List.getElem?_cons_succ, List.getElem?_cons_zero]; rfl)
            case hsx10r => kernel_rfl
            case hfx10r => kernel_rfl
            case hrx10r => kernel_rfl
            case hQx10r => exact fun _ _ _ h => h
            case hwx10r => rfl
            case hyx10r =>
              intro W hW
              go_simp
              try with_reducible rfl
            simp only [Act.put, List.setIfInBounds_toArray, List.set_cons_succ, List.set_cons_zero]
            refine' wpAnyH_take (i := 11) ?h1x11r ?hsx11r ?hfx11r ?hrx11r ?hQx11r (Or.inl ⟨?hwx11r, ?hyx11r⟩) hS ?restx11r
            case h1x11r => (simp only [List.getElem?_toArray, List.getElem?_cons_succ, List.getElem?_cons_zero]; rfl)
            case hsx11r => kernel_rfl
            case hfx11r => kernel_rfl
            case hrx11r => kernel_rfl
            case hQx11r => exact fun _ _ _ h => h
            case hwx11r => rfl
            case hyx11r =>
              intro W hW
              go_simp
              try with_reducible rfl
            simp only [Act.put, List.setIfInBounds_toArray, List.set_cons_succ, List.set_cons_zero]
            refine' wpAnyH_take (i := 13) ?h1x13r ?hsx13r ?hfx13r ?hrx13r ?hQx13r (Or.inl ⟨?hwx13r, ?hyx13r⟩) hS ?restx13r
            case h1x13r => (simp only [List.getElem?_toArray, List.getElem?_cons_succ, List.getElem?_cons_zero]; rfl)
            case hsx13r => kernel_rfl
            case hfx13r => kernel_rfl
            case hrx13r => kernel_rfl
            case hQx13r => exact fun _ _ _ h => h
            case hwx13r => rfl
            case hyx13r =>
              intro W hW
              go_simp
              try with_reducible rfl
            simp only [Act.put, List.setIfInBounds_toArray, List.set_cons_succ, List.set_cons_zero]
            refine' wpAnyH_take (i := 14) ?h1x14r ?hsx14r ?hfx14r ?hrx14r ?hQx14r (Or.inl ⟨?hwx14r, ?hyx14r⟩) hS ?restx14r
            case h1x14r => (simp only [List.getElem?_toArray, List.getElem?_cons_succ, List.getElem?_cons_zero]; rfl)
            case hsx14r => kernel_rfl
            case hfx14r => kernel_rfl
            case hrx14r => kernel_rfl
            case hQx14r => exact fun _ _ _ h => h
            case hwx14r => rfl
            case hyx14r =>
              intro W hW
              go_simp
              try with_reducible rfl
            simp only [Act.put, List.setIfInBounds_toArray, List.set_cons_succ, List.set_cons_zero]
            refine' wpAnyH_take (i := 15) ?h1x15r ?hsx15r ?hfx15r ?hrx15r ?hQx15r (Or.inl ⟨?hwx15r, ?hyx15r⟩) hS ?restx15r
            case h1x15r => (simp only [List.getElem?_toArray, List.getElem?_cons_succ, List.getElem?_cons_zero]; rfl)
            case hsx15r => kernel_rfl
            case hfx15r => kernel_rfl
            case hrx15r => kernel_rfl
            case hQx15r => exact fun _ _ _ h => h
            case hwx15r => rfl
            case hyx15r =>
              intro W hW
              go_simp
              try with_reducible rfl
            simp only [Act.put, List.setIfInBounds_toArray, List.set_cons_succ, List.set_cons_zero]
            obtain ⟨xd, cd, c06, _, _⟩ := DL6.out.read
            have C06 := Lib.hid c06
            have CT6 := Lib.hid (countY S4 g (addT T x) w6 LG6.out)
            have HX6 := Lib.hid (hasY S4 g (addT T x) a _ w6 LG6.out (by have := LT41.out; omega) (HGL.out.below R6.out.1 H2.out) HSA.out.1 (by have := HLA.out; omega) (HSA.out.below R6.out.1))
            rw [← HBIT.out] at HX6
            clear c06
            refine wpAnyH_ready (rs := [12, 16]) (by kernel_rfl) (by simp) ?_
            refine' AllReadyH.cons ?hoc12r (fun K hK => ?stc12r) (AllReadyH.cons ?hoc16r (fun K hK => ?stc16r) AllReadyH.nil)
            case hoc12r => (simp only [List.getElem?_toArray, List.getElem?_cons_succ, List.getElem?_cons_zero]; rfl)
            case hoc16r => (simp only [List.getElem?_toArray, List.getElem?_cons_succ, List.getElem?_cons_zero]; rfl)
            case stc12r =>
              go_simp
              refine (CT6.out).mono ?_
              rintro e w' ⟨rfl, rfl⟩
              go_wp2_with fail
              refine hK.out _ _ R6.out (fun hHeld => ?_)
              clear hK K
              try simp only [Act.put, List.setIfInBounds_toArray, List.set_cons_succ, List.set_cons_zero]
              clear hS
              have hS := hHeld
              clear hHeld
              refine wpAnyH_ready (rs := [16]) (by kernel_rfl) (by simp) ?_
              refine' AllReadyH.cons ?hoc16s (fun K hK => ?stc16s) AllReadyH.nil
              case hoc16s => (simp only [List.getElem?_toArray, List.getElem?_cons_succ, List.getElem?_cons_zero]; rfl)
              have c0 := C06.out
              go_simp
              refine hK.out _ _ R6.out (fun hHeld => ?_)
              clear hK K
              try simp only [Act.put, List.setIfInBounds_toArray, List.set_cons_succ, List.set_cons_zero]
              clear hS
              have hS := hHeld
              clear hHeld
              clear c0
              refine' wpAnyH_take (i := 17) ?h1x17s ?hsx17s ?hfx17s ?hrx17s ?hQx17s (Or.inl ⟨?hwx17s, ?hyx17s⟩) hS ?restx17s
              case h1x17s => (simp only [List.getElem?_toArray, List.getElem?_cons_succ, List.getElem?_cons_zero]; rfl)
              case hsx17s => kernel_rfl
              case hfx17s => kernel_rfl
              case hrx17s => kernel_rfl
              case hQx17s => exact fun _ _ _ h => h
              case hwx17s => rfl
              case hyx17s =>
                intro W hW
                go_simp
                try with_reducible rfl
              simp only [Act.put, List.setIfInBounds_toArray, List.set_cons_succ, List.set_cons_zero]
              refine' wpAnyH_take (i := 18) ?h1x18s ?hsx18s ?hfx18s ?hrx18s ?hQx18s (Or.inl ⟨?hwx18s, ?hyx18s⟩) hS ?restx18s
              case h1x18s => (simp only [List.getElem?_toArray, List.getElem?_cons_succ, List.getElem?_cons_zero]; rfl)
              case hsx18s => kernel_rfl
              case hfx18s => kernel_rfl
              case hrx18s => kernel_rfl
              case hQx18s => exact fun _ _ _ h => h
              case hwx18s => rfl
              case hyx18s =>
                intro W hW
                go_simp
                try with_reducible rfl
              simp only [Act.put, List.setIfInBounds_toArray, List.set_cons_succ, List.set_cons_zero]
              refine' wpAnyH_take (i := 19) ?h1x19s ?hsx19s ?hfx19s ?hrx19s ?hQx19s (Or.inl ⟨?hwx19s, ?hyx19s⟩) hS ?restx19s
              case h1x19s => (simp only [List.getElem?_toArray, List.getElem?_cons_succ, List.getElem?_cons_zero]; rfl)
              case hsx19s => kernel_rfl
              case hfx19s => kernel_rfl
              case hrx19s => kernel_rfl
              case hQx19s => exact fun _ _ _ h => h
              case hwx19s => rfl
              case hyx19s =>
                intro W hW
                go_simp
                try with_reducible rfl
              simp only [Act.put, List.setIfInBounds_toArray, List.set_cons_succ, List.set_cons_zero]
              refine' wpAnyH_take (i := 20) ?h1x20s ?hsx20s ?hfx20s ?hrx20s ?hQx20s (Or.inl ⟨?hwx20s, ?hyx20s⟩) hS ?restx20s
              case h1x20s => (simp only [List.getElem?_toArray, List.getElem?_cons_succ, List.getElem?_cons_zero]; rfl)
              case hsx20s => kernel_rfl
              case hfx20s => kernel_rfl
              case hrx20s => kernel_rfl
              case hQx20s => exact fun _ _ _ h => h
              case hwx20s => rfl
              case hyx20s =>
                intro W hW
                go_simp
                try with_reducible rfl
              simp only [Act.put, List.setIfInBounds_toArray, List.set_cons_succ, List.set_cons_zero]
              refine' wpAnyH_take (i := 21) ?h1x21s ?hsx21s ?hfx21s ?hrx21s ?hQx21s (Or.inl ⟨?hwx21s, ?hyx21s⟩) hS ?restx21s
              case h1x21s => (simp only [List.getElem?_toArray, List.getElem?_cons_succ, List.getElem?_cons_zero]; rfl)
              case hsx21s => kernel_rfl
              case hfx21s => kernel_rfl
              case hrx21s => kernel_rfl
              case hQx21s => exact fun _ _ _ h => h
              case hwx21s => rfl
              case hyx21s =>
                intro W hW
                go_simp
                try with_reducible rfl
              simp only [Act.put, List.setIfInBounds_toArray, List.set_cons_succ, List.set_cons_zero]
              refine' wpAnyH_take (i := 22) ?h1x22s ?hsx22s ?hfx22s ?hrx22s ?hQx22s (Or.inl ⟨?hwx22s, ?hyx22s⟩) hS ?restx22s
              case h1x22s => (simp only [List.getElem?_toArray, List.getElem?_cons_succ, List.getElem?_cons_zero]; rfl)
              case hsx22s => kernel_rfl
              case hfx22s => kernel_rfl
              case hrx22s => kernel_rfl
              case hQx22s => exact fun _ _ _ h => h
              case hwx22s => rfl
              case hyx22s =>
                intro W hW
                go_simp
                try with_reducible rfl
              simp only [Act.put, List.setIfInBounds_toArray, List.set_cons_succ, List.set_cons_zero]
              refine' wpAnyH_take (i := 24) ?h1x24s ?hsx24s ?hfx24s ?hrx24s ?hQx24s (Or.inl ⟨?hwx24s, ?hyx24s⟩) hS ?restx24s
              case h1x24s => (simp only [List.getElem?_toArray, List.getElem?_cons_succ, List.getElem?_cons_zero]; rfl)
              case hsx24s => kernel_rfl
              case hfx24s => kernel_rfl
              case hrx24s => kernel_rfl
              case hQx24s => exact fun _ _ _ h => h
              case hwx24s => rfl
              case hyx24s =>
                intro W hW
                go_simp
                try with_reducible rfl
              simp only [Act.put, List.setIfInBounds_toArray, List.set_cons_succ, List.set_cons_zero]
              refine' wpAnyH_take (i := 25) ?h1x25s ?hsx25s ?hfx25s ?hrx25s ?hQx25s (Or.inl ⟨?hwx25s, ?hyx25s⟩) hS ?restx25s
              case h1x25s => (simp only [List.getElem?_toArray, List.getElem?_cons_succ, List.getElem?_cons_zero]; rfl)
              case hsx25s => kernel_rfl
              case hfx25s => kernel_rfl
              case hrx25s => kernel_rfl
              case hQx25s => exact fun _ _ _ h => h
              case hwx25s => rfl
              case hyx25s =>
                intro W hW
                go_simp
                try with_reducible rfl
              simp only [Act.put, List.setIfInBounds_toArray, List.set_cons_succ, List.set_cons_zero]
              refine wpAnyH_ready (rs := [23]) (by kernel_rfl) (by simp) ?_
              refine' AllReadyH.cons ?hoc23s (fun K hK => ?stc23s) AllReadyH.nil
              case hoc23s => (simp only [List.getElem?_toArray, List.getElem?_cons_succ, List.getElem?_cons_zero]; rfl)
              go_simp
              refine (HX6.out).mono ?_
              rintro e w7 ⟨rfl, hb7⟩
              have B67 := Lib.hid hb7
              have R7 : Hid (Below w.heap.size w w7 ∧ w7.heap[w3.heap.size]? = some (.cells (bcells A) 31 (0, 0))) := ⟨R6.out.1.trans (hb7.mono R6.out.1.size), (hb7.block _ (blk_lt R6.out.2)).trans R6.out.2⟩
              have HD7 := Lib.hid (hasD _ h (addT T x) a _ w7 (DL6.out.below hb7) (by have := LT41.out; omega) (HSA.out.below R7.out.1))
              rw [← HBIT.out] at HD7
              clear hb7
              go_wp2_with fail
              refine hK.out _ _ R7.out (fun hHeld => ?_)
              clear hK K
              try simp only [Act.put, List.setIfInBounds_toArray, List.set_cons_succ, List.set_cons_zero]
              clear hS
              have hS := hHeld
              clear hHeld
              refine wpAnyH_ready (rs := [26]) (by kernel_rfl) (by simp) ?_
              refine' AllReadyH.cons ?hoc26s (fun K hK => ?stc26s) AllReadyH.nil
              case hoc26s => (simp only [List.getElem?_toArray, List.getElem?_cons_succ, List.getElem?_cons_zero]; rfl)
              go_simp
              refine (HD7.out).mono ?_
              rintro e w8 ⟨rfl, hb8⟩
              have R8 : Hid (Below w.heap.size w w8 ∧ w8.heap[w3.heap.size]? = some (.cells (bcells A) 31 (0, 0))) := ⟨R7.out.1.trans (hb8.mono R7.out.1.size), (hb8.block _ (blk_lt R7.out.2)).trans R7.out.2⟩
              have F8 := Lib.hid (FIN.out w6 w8 DL6.out MM6.out (B67.out.trans (hb8.mono B67.out.size)))
              clear hb8
              go_wp2_with fail
              refine hK.out _ _ R8.out (fun hHeld => ?_)
              clear hK K
              try simp only [Act.put, List.setIfInBounds_toArray, List.set_cons_succ, List.set_cons_zero]
              clear hS
              have hS := hHeld
              clear hHeld
              refine' wpAnyH_take (i := 27) ?h1x27s ?hsx27s ?hfx27s ?hrx27s ?hQx27s (Or.inl ⟨?hwx27s, ?hyx27s⟩) hS ?restx27s
              case h1x27s => (simp only [List.getElem?_toArray, List.getElem?_cons_succ, List.getElem?_cons_zero]; rfl)
              case hsx27s => kernel_rfl
              case hfx27s => kernel_rfl
              case hrx27s => kernel_rfl
              case hQx27s => exact fun _ _ _ h => h
              case hwx27s => rfl
              case hyx27s =>
                intro W hW
                go_simp
                try with_reducible rfl
              simp only [Act.put, List.setIfInBounds_toArray, List.set_cons_succ, List.set_cons_zero]
              refine' wpAnyH_take (i := 28) ?h1x28s ?hsx28s ?hfx28s ?hrx28s ?hQx28s (Or.inl ⟨?hwx28s, ?hyx28s⟩) hS ?restx28s
              case h1x28s => (simp only [List.getElem?_toArray, List.getElem?_cons_succ, List.getElem?_cons_zero]; rfl)
              case hsx28s => kernel_rfl
              case hfx28s => kernel_rfl
              case hrx28s => kernel_rfl
              case hQx28s => exact fun _ _ _ h => h
              case hwx28s => rfl
              case hyx28s =>
                intro W hW
                go_simp
                try with_reducible rfl
              simp only [Act.put, List.setIfInBounds_toArray, List.set_cons_succ, List.set_cons_zero]
              refine wpAnyH_done (by kernel_rfl) ?_ _
              clear hS
              go_wp2_with fail
              go_roundw
              case rel => exact ⟨i + 1, S4, _, addT T x, by omega, by go_num, F8.out.1, F8.out.2.1, fun j hj => (NS4.out j hj).1, F8.out.2.2.1, F8.out.2.2.2.1, LEN6.out, F8.out.2.2.2.2⟩
              case measure => simp [intOf]; omega
            case stc16r =>
              have c0 := C06.out
              go_simp
              refine hK.out _ _ R6.out (fun hHeld => ?_)
              clear hK K
              try simp only [Act.put, List.setIfInBounds_toArray, List.set_cons_succ, List.set_cons_zero]
              clear hS
              have hS := hHeld
              clear hHeld
              clear c0
              refine' wpAnyH_take (i := 17) ?h1x17u ?hsx17u ?hfx17u ?hrx17u ?hQx17u (Or.inl ⟨?hwx17u, ?hyx17u⟩) hS ?restx17u
              case h1x17u => (simp only [List.getElem?_toArray, List.getElem?_cons_succ, List.getElem?_cons_zero]; rfl)
              case hsx17u => kernel_rfl
              case hfx17u => kernel_rfl
              case hrx17u => kernel_rfl
              case hQx17u => exact fun _ _ _ h => h
              case hwx17u => rfl
              case hyx17u =>
                intro W hW
                go_simp
                try with_reducible rfl
              simp only [Act.put, List.setIfInBounds_toArray, List.set_cons_succ, List.set_cons_zero]
              refine wpAnyH_ready (rs := [12]) (by kernel_rfl) (by simp) ?_
              refine' AllReadyH.cons ?hoc12u (fun K hK => ?stc12u) AllReadyH.nil
              case hoc12u => (simp only [List.getElem?_toArray, List.getElem?_cons_succ, List.getElem?_cons_zero]; rfl)
              go_simp
              refine (CT6.out).mono ?_
              rintro e w' ⟨rfl, rfl⟩
              go_wp2_with fail
              refine hK.out _ _ R6.out (fun hHeld => ?_)
              clear hK K
              try simp only [Act.put, List.setIfInBounds_toArray, List.set_cons_succ, List.set_cons_zero]
              clear hS
              have hS := hHeld
              clear hHeld
              refine' wpAnyH_take (i := 18) ?h1x18u ?hsx18u ?hfx18u ?hrx18u ?hQx18u (Or.inl ⟨?hwx18u, ?hyx18u⟩) hS ?restx18u
              case h1x18u => (simp only [List.getElem?_toArray, List.getElem?_cons_succ, List.getElem?_cons_zero]; rfl)
              case hsx18u => kernel_rfl
              case hfx18u => kernel_rfl
              case hrx18u => kernel_rfl
              case hQx18u => exact fun _ _ _ h => h
              case hwx18u => rfl
              case hyx18u =>
                intro W hW
                go_simp
                try with_reducible rfl
              simp only [Act.put, List.setIfInBounds_toArray, List.set_cons_succ, List.set_cons_zero]
              refine' wpAnyH_take (i := 19) ?h1x19u ?hsx19u ?hfx19u ?hrx19u ?hQx19u (Or.inl ⟨?hwx19u, ?hyx19u⟩) hS ?restx19u
              case h1x19u => (simp only [List.getElem?_toArray, List.getElem?_cons_succ, List.getElem?_cons_zero]; rfl)
              case hsx19u => kernel_rfl
              case hfx19u => kernel_rfl
              case hrx19u => kernel_rfl
              case hQx19u => exact fun _ _ _ h => h
              case hwx19u => rfl
              case hyx19u =>
                intro W hW
                go_simp
                try with_reducible rfl
              simp only [Act.put, List.setIfInBounds_toArray, List.set_cons_succ, List.set_cons_zero]
              refine' wpAnyH_take (i := 20) ?h1x20u ?hsx20u ?hfx20u ?hrx20u ?hQx20u (Or.inl ⟨?hwx20u, ?hyx20u⟩) hS ?restx20u
              case h1x20u => (simp only [List.getElem?_toArray, List.getElem?_cons_succ, List.getElem?_cons_zero]; rfl)
              case hsx20u => kernel_rfl
              case hfx20u => kernel_rfl
              case hrx20u => kernel_rfl
              case hQx20u => exact fun _ _ _ h => h
              case hwx20u => rfl
              case hyx20u =>
                intro W hW
                go_simp
                try with_reducible rfl
              simp only [Act.put, List.setIfInBounds_toArray, List.set_cons_succ, List.set_cons_zero]
              refine' wpAnyH_take (i := 21) ?h1x21u ?hsx21u ?hfx21u ?hrx21u ?hQx21u (Or.inl ⟨?hwx21u, ?hyx21u⟩) hS ?restx21u
              case h1x21u => (simp only [List.getElem?_toArray, List.getElem?_cons_succ, List.getElem?_cons_zero]; rfl)
              case hsx21u => kernel_rfl
              case hfx21u => kernel_rfl
              case hrx21u => kernel_rfl
              case hQx21u => exact fun _ _ _ h => h
              case hwx21u => rfl
              case hyx21u =>
                intro W hW
                go_simp
                try with_reducible rfl
              simp only [Act.put, List.setIfInBounds_toArray, List.set_cons_succ, List.set_cons_zero]
              refine' wpAnyH_take (i := 22) ?h1x22u ?hsx22u ?hfx22u ?hrx22u ?hQx22u (Or.inl ⟨?hwx22u, ?hyx22u⟩) hS ?restx22u
              case h1x22u => (simp only [List.getElem?_toArray, List.getElem?_cons_succ, List.getElem?_cons_zero]; rfl)
              case hsx22u => kernel_rfl
              case hfx22u => kernel_rfl
              case hrx22u => kernel_rfl
              case hQx22u => exact fun _ _ _ h => h
              case hwx22u => rfl
              case hyx22u =>
                intro W hW
                go_simp
                try with_reducible rfl
              simp only [Act.put, List.setIfInBounds_toArray, List.set_cons_succ, List.set_cons_zero]
              refine' wpAnyH_take (i := 24) ?h1x24u ?hsx24u ?hfx24u ?hrx24u ?hQx24u (Or.inl ⟨?hwx24u, ?hyx24u⟩) hS ?restx24u
              case h1x24u => (simp only [List.getElem?_toArray, List.getElem?_cons_succ, List.getElem?_cons_zero]; rfl)
              case hsx24u => kernel_rfl
              case hfx24u => kernel_rfl
              case hrx24u => kernel_rfl
              case hQx24u => exact fun _ _ _ h => h
              case hwx24u => rfl
              case hyx24u =>
                intro W hW
                go_simp
                try with_reducible rfl
              simp only [Act.put, List.setIfInBounds_toArray, List.set_cons_succ, List.set_cons_zero]
              refine' wpAnyH_take (i := 25) ?h1x25u ?hsx25u ?hfx25u ?hrx25u ?hQx25u (Or.inl ⟨?hwx25u, ?hyx25u⟩) hS ?restx25u
              case h1x25u => (simp only [List.getElem?_toArray, List.getElem?_cons_succ, List.getElem?_cons_zero]; rfl)
              case hsx25u => kernel_rfl
              case hfx25u => kernel_rfl
              case hrx25u => kernel_rfl
              case hQx25u => exact fun _ _ _ h => h
              case hwx25u => rfl
              case hyx25u =>
                intro W hW
                go_simp
                try with_reducible rfl
              simp only [Act.put, List.setIfInBounds_toArray, List.set_cons_succ, List.set_cons_zero]
              refine wpAnyH_ready (rs := [23]) (by kernel_rfl) (by simp) ?_
              refine' AllReadyH.cons ?hoc23u (fun K hK => ?stc23u) AllReadyH.nil
              case hoc23u => (simp only [List.getElem?_toArray, List.getElem?_cons_succ, List.getElem?_cons_zero]; rfl)
              go_simp
              refine (HX6.out).mono ?_
              rintro e w7 ⟨rfl, hb7⟩
              have B67 := Lib.hid hb7
              have R7 : Hid (Below w.heap.size w w7 ∧ w7.heap[w3.heap.size]? = some (.cells (bcells A) 31 (0, 0))) := ⟨R6.out.1.trans (hb7.mono R6.out.1.size), (hb7.block _ (blk_lt R6.out.2)).trans R6.out.2⟩
              have HD7 := Lib.hid (hasD _ h (addT T x) a _ w7 (DL6.out.below hb7) (by have := LT41.out; omega) (HSA.out.below R7.out.1))
              rw [← HBIT.out] at HD7
              clear hb7
              go_wp2_with fail
              refine hK.out _ _ R7.out (fun hHeld => ?_)
              clear hK K
              try simp only [Act.put, List.setIfInBounds_toArray, List.set_cons_succ, List.set_cons_zero]
              clear hS
              have hS := hHeld
              clear hHeld
              refine wpAnyH_ready (rs := [26]) (by kernel_rfl) (by simp) ?_
              refine' AllReadyH.cons ?hoc26u (fun K hK => ?stc26u) AllReadyH.nil
              case hoc26u => (simp only [List.getElem?_toArray, List.getElem?_cons_succ, List.getElem?_cons_zero]; rfl)
              go_simp
              refine (HD7.out).mono ?_
              rintro e w8 ⟨rfl, hb8⟩
              have R8 : Hid (Below w.heap.size w w8 ∧ w8.heap[w3.heap.size]? = some (.cells (bcells A) 31 (0, 0))) := ⟨R7.out.1.trans (hb8.mono R7.out.1.size), (hb8.block _ (blk_lt R7.out.2)).trans R7.out.2⟩
              have F8 := Lib.hid (FIN.out w6 w8 DL6.out MM6.out (B67.out.trans (hb8.mono B67.out.size)))
              clear hb8
              go_wp2_with fail
              refine hK.out _ _ R8.out (fun hHeld => ?_)
              clear hK K
              try simp only [Act.put, List.setIfInBounds_toArray, List.set_cons_succ, List.set_cons_zero]
              clear hS
              have hS := hHeld
              clear hHeld
              refine' wpAnyH_take (i := 27) ?h1x27u ?hsx27u ?hfx27u ?hrx27u ?hQx27u (Or.inl ⟨?hwx27u, ?hyx27u⟩) hS ?restx27u
              case h1x27u => (simp only [List.getElem?_toArray, List.getElem?_cons_succ, List.getElem?_cons_zero]; rfl)
              case hsx27u => kernel_rfl
              case hfx27u => kernel_rfl
              case hrx27u => kernel_rfl
              case hQx27u => exact fun _ _ _ h => h
              case hwx27u => rfl
              case hyx27u =>
                intro W hW
                go_simp
                try with_reducible rfl
              simp only [Act.put, List.setIfInBounds_toArray, List.set_cons_succ, List.set_cons_zero]
              refine' wpAnyH_take (i := 28) ?h1x28u ?hsx28u ?hfx28u ?hrx28u ?hQx28u (Or.inl ⟨?hwx28u, ?hyx28u⟩) hS ?restx28u
              case h1x28u => (simp only [List.getElem?_toArray, List.getElem?_cons_succ, List.getElem?_cons_zero]; rfl)
              case hsx28u => kernel_rfl
              case hfx28u => kernel_rfl
              case hrx28u => kernel_rfl
              case hQx28u => exact fun _ _ _ h => h
              case hwx28u => rfl
              case hyx28u =>
                intro W hW
                go_simp
                try with_reducible rfl
              simp only [Act.put, List.setIfInBounds_toArray, List.set_cons_succ, List.set_cons_zero]
              refine wpAnyH_done (by kernel_rfl) ?_ _
              clear hS
              go_wp2_with fail
              go_roundw
              case rel => exact ⟨i + 1, S4, _, addT T x, by omega, by go_num, F8.out.1, F8.out.2.1, fun j hj => (NS4.out j hj).1, F8.out.2.2.1, F8.out.2.2.2.1, LEN6.out, F8.out.2.2.2.2⟩
              case measure => simp [intOf]; omega
    · have hge : ¬ (i : Int) < (n : Int) := by omega
      have CDH := Lib.hid (fun (W : World) (hb : Below wr.heap.size wr W) => clashD U h T W (LY.out.below hb) (by have := HT.out; have := HN40.out; omega))
      cases hc : clk sha T with
      | none =>
        have CX := Lib.hid (clashY0 S g T wr LX.out hc)
        have HCL := Lib.hid hc
        clear hc
        go_wp2_with fail
        refine CX.out.mono ?_
        rintro e w' ⟨rfl, rfl⟩
        go_wp2_with fail
        refine (CDH.out _ (Below.refl _ _)).mono ?_
        rintro e wZ ⟨hcp, hbz⟩
        have BZ := Lib.hid (HBW.out.trans (hbz.mono HBW.out.size))
        clear hbz
        rcases hcp with ⟨_, rfl⟩ | ⟨k, m, c, s, t, _, hc2, _⟩
        · go_wp2_with fail
          refine wp_region_held_drew (S := fun W => Below wZ.heap.size wZ W) (by kernel_rfl) (Below.refl _ _).drew (fun hS => ?_)
          have G22 := Lib.hid (HGL.out.below (BZ.out.trans (hS.mono BZ.out.size)) H2.out)
          refine wpAnyH_ready (rs := [0]) (by kernel_rfl) (by simp) ?_
          refine' AllReadyH.cons ?hoc0zz (fun K hK => ?stc0zz) AllReadyH.nil
          case hoc0zz => (simp only [List.getElem?_toArray, List.getElem?_cons_zero]; rfl)
          go_simp
          refine (alive8 _ G22.out).mono ?_
          rintro e wA ⟨rfl, hb⟩
          go_wp2_with fail
          refine hK.out _ _ (hS.trans (hb.mono hS.size)) (fun hHeld => ?_)
          clear hK K
          try simp only [Act.put, List.setIfInBounds_toArray, List.set_cons_succ, List.set_cons_zero]
          clear hS hb
          have hS := hHeld
          clear hHeld
          refine' wpAnyH_take (i := 1) ?h1x1zz ?hsx1zz ?hfx1zz ?hrx1zz ?hQx1zz (Or.inl ⟨?hwx1zz, ?hyx1zz⟩) hS ?restx1zz
          case h1x1zz => (simp only [List.getElem?_toArray, List.getElem?_cons_succ, List.getElem?_cons_zero]; rfl)
          case hsx1zz => kernel_rfl
          case hfx1zz => kernel_rfl
          case hrx1zz => kernel_rfl
          case hQx1zz => exact fun _ _ _ h => h
          case hwx1zz => rfl
          case hyx1zz =>
            intro W hW
            go_simp
            try with_reducible rfl
          simp only [Act.put, List.setIfInBounds_toArray, List.set_cons_succ, List.set_cons_zero]
          refine' wpAnyH_take (i := 2) ?h1x2zz ?hsx2zz ?hfx2zz ?hrx2zz ?hQx2zz (Or.inl ⟨?hwx2zz, ?hyx2zz⟩) hS ?restx2zz
          case h1x2zz => (simp only [List.getElem?_toArray, List.getElem?_cons_succ, List.getElem?_cons_zero]; rfl)
          case hsx2zz => kernel_rfl
          case hfx2zz => kernel_rfl
          case hrx2zz => kernel_rfl
          case hQx2zz => exact fun _ _ _ h => h
          case hwx2zz => rfl
          case hyx2zz =>
            intro W hW
            go_simp
            try with_reducible rfl
          simp only [Act.put, List.setIfInBounds_toArray, List.set_cons_succ, List.set_cons_zero]
          refine' wpAnyH_take (i := 3) ?h1x3zz ?hsx3zz ?hfx3zz ?hrx3zz ?hQx3zz (Or.inl ⟨?hwx3zz, ?hyx3zz⟩) hS ?restx3zz
          case h1x3zz => (simp only [List.getElem?_toArray, List.getElem?_cons_succ, List.getElem?_cons_zero]; rfl)
          case hsx3zz => kernel_rfl
          case hfx3zz => kernel_rfl
          case hrx3zz => kernel_rfl
          case hQx3zz => exact fun _ _ _ h => h
          case hwx3zz => rfl
          case hyx3zz =>
            intro W hW
            go_simp
            try with_reducible rfl
          simp only [Act.put, List.setIfInBounds_toArray, List.set_cons_succ, List.set_cons_zero]
          refine' wpAnyH_take (i := 4) ?h1x4zz ?hsx4zz ?hfx4zz ?hrx4zz ?hQx4zz (Or.inl ⟨?hwx4zz, ?hyx4zz⟩) hS ?restx4zz
          case h1x4zz => (simp only [List.getElem?_toArray, List.getElem?_cons_succ, List.getElem?_cons_zero]; rfl)
          case hsx4zz => kernel_rfl
          case hfx4zz => kernel_rfl
          case hrx4zz => kernel_rfl
          case hQx4zz => exact fun _ _ _ h => h
          case hwx4zz => rfl
          case hyx4zz =>
            intro W hW
            go_simp
            try with_reducible rfl
          simp only [Act.put, List.setIfInBounds_toArray, List.set_cons_succ, List.set_cons_zero]
          refine' wpAnyH_take (i := 5) ?h1x5zz ?hsx5zz ?hfx5zz ?hrx5zz ?hQx5zz (Or.inr ⟨?hwx5zz, rfl⟩) hS ?restx5zz
          case h1x5zz => (simp only [List.getElem?_toArray, List.getElem?_cons_succ, List.getElem?_cons_zero]; rfl)
          case hsx5zz => kernel_rfl
          case hfx5zz => kernel_rfl
          case hrx5zz => kernel_rfl
          case hQx5zz => exact fun _ _ _ h => h
          case hwx5zz => rfl
          simp only [Act.put, List.setIfInBounds_toArray, List.set_cons_succ, List.set_cons_zero]
          refine' wpAnyH_take (i := 6) ?h1x6zz ?hsx6zz ?hfx6zz ?hrx6zz ?hQx6zz (Or.inr ⟨?hwx6zz, rfl⟩) hS ?restx6zz
          case h1x6zz => (simp only [List.getElem?_toArray, List.getElem?_cons_succ, List.getElem?_cons_zero]; rfl)
          case hsx6zz => kernel_rfl
          case hfx6zz => kernel_rfl
          case hrx6zz => kernel_rfl
          case hQx6zz => exact fun _ _ _ h => h
          case hwx6zz => rfl
          simp only [Act.put, List.setIfInBounds_toArray, List.set_cons_succ, List.set_cons_zero]
          refine' wpAnyH_take (i := 7) ?h1x7zz ?hsx7zz ?hfx7zz ?hrx7zz ?hQx7zz (Or.inr ⟨?hwx7zz, rfl⟩) hS ?restx7zz
          case h1x7zz => (simp only [List.getElem?_toArray, List.getElem?_cons_succ, List.getElem?_cons_zero]; rfl)
          case hsx7zz => kernel_rfl
          case hfx7zz => kernel_rfl
          case hrx7zz => kernel_rfl
          case hQx7zz => exact fun _ _ _ h => h
          case hwx7zz => rfl
          simp only [Act.put, List.setIfInBounds_toArray, List.set_cons_succ, List.set_cons_zero]
          refine' wpAnyH_take (i := 8) ?h1x8zz ?hsx8zz ?hfx8zz ?hrx8zz ?hQx8zz (Or.inr ⟨?hwx8zz, rfl⟩) hS ?restx8zz
          case h1x8zz => (simp only [List.getElem?_toArray, List.getElem?_cons_succ, List.getElem?_cons_zero]; rfl)
          case hsx8zz => kernel_rfl
          case hfx8zz => kernel_rfl
          case hrx8zz => kernel_rfl
          case hQx8zz => exact fun _ _ _ h => h
          case hwx8zz => rfl
          simp only [Act.put, List.setIfInBounds_toArray, List.set_cons_succ, List.set_cons_zero]
          refine' wpAnyH_take (i := 9) ?h1x9zz ?hsx9zz ?hfx9zz ?hrx9zz ?hQx9zz (Or.inr ⟨?hwx9zz, rfl⟩) hS ?restx9zz
          case h1x9zz => (simp only [List.getElem?_toArray, List.getElem?_cons_succ, List.getElem?_cons_zero]; rfl)
          case hsx9zz => kernel_rfl
          case hfx9zz => kernel_rfl
          case hrx9zz => kernel_rfl
          case hQx9zz => exact fun _ _ _ h => h
          case hwx9zz => rfl
          simp only [Act.put, List.setIfInBounds_toArray, List.set_cons_succ, List.set_cons_zero]
          refine' wpAnyH_take (i := 10) ?h1x10zz ?hsx10zz ?hfx10zz ?hrx10zz ?hQx10zz (Or.inr ⟨?hwx10zz, rfl⟩) hS ?restx10zz
          case h1x10zz => (simp only [List.getElem?_toArray, List.getElem?_cons_succ, List.getElem?_cons_zero]; rfl)
          case hsx10zz => kernel_rfl
          case hfx10zz => kernel_rfl
          case hrx10zz => kernel_rfl
          case hQx10zz => exact fun _ _ _ h => h
          case hwx10zz => rfl
          simp only [Act.put, List.setIfInBounds_toArray, List.set_cons_succ, List.set_cons_zero]
          refine' wpAnyH_take (i := 11) ?h1x11zz ?hsx11zz ?hfx11zz ?hrx11zz ?hQx11zz (Or.inr ⟨?hwx11zz, rfl⟩) hS ?restx11zz
          case h1x11zz => (simp only [List.getElem?_toArray, List.getElem?_cons_succ, List.getElem?_cons_zero]; rfl)
          case hsx11zz => kernel_rfl
          case hfx11zz => kernel_rfl
          case hrx11zz => kernel_rfl
          case hQx11zz => exact fun _ _ _ h => h
          case hwx11zz => rfl
          simp only [Act.put, List.setIfInBounds_toArray, List.set_cons_succ, List.set_cons_zero]
          refine' wpAnyH_take (i := 12) ?h1x12zz ?hsx12zz ?hfx12zz ?hrx12zz ?hQx12zz (Or.inr ⟨?hwx12zz, rfl⟩) hS ?restx12zz
          case h1x12zz => (simp only [List.getElem?_toArray, List.getElem?_cons_succ, List.getElem?_cons_zero]; rfl)
          case hsx12zz => kernel_rfl
          case hfx12zz => kernel_rfl
          case hrx12zz => kernel_rfl
          case hQx12zz => exact fun _ _ _ h => h
          case hwx12zz => rfl
          simp only [Act.put, List.setIfInBounds_toArray, List.set_cons_succ, List.set_cons_zero]
          refine' wpAnyH_take (i := 13) ?h1x13zz ?hsx13zz ?hfx13zz ?hrx13zz ?hQx13zz (Or.inr ⟨?hwx13zz, rfl⟩) hS ?restx13zz
          case h1x13zz => (simp only [List.getElem?_toArray, List.getElem?_cons_succ, List.getElem?_cons_zero]; rfl)
          case hsx13zz => kernel_rfl
          case hfx13zz => kernel_rfl
          case hrx13zz => kernel_rfl
          case hQx13zz => exact fun _ _ _ h => h
          case hwx13zz => rfl
          simp only [Act.put, List.setIfInBounds_toArray, List.set_cons_succ, List.set_cons_zero]
          refine' wpAnyH_take (i := 14) ?h1x14zz ?hsx14zz ?hfx14zz ?hrx14zz ?hQx14zz (Or.inr ⟨?hwx14zz, rfl⟩) hS ?restx14zz
          case h1x14zz => (simp only [List.getElem?_toArray, List.getElem?_cons_succ, List.getElem?_cons_zero]; rfl)
          case hsx14zz => kernel_rfl
          case hfx14zz => kernel_rfl
          case hrx14zz => kernel_rfl
          case hQx14zz => exact fun _ _ _ h => h
          case hwx14zz => rfl
          simp only [Act.put, List.setIfInBounds_toArray, List.set_cons_succ, List.set_cons_zero]
          refine' wpAnyH_take (i := 15) ?h1x15zz ?hsx15zz ?hfx15zz ?hrx15zz ?hQx15zz (Or.inr ⟨?hwx15zz, rfl⟩) hS ?restx15zz
          case h1x15zz => (simp only [List.getElem?_toArray, List.getElem?_cons_succ, List.getElem?_cons_zero]; rfl)
          case hsx15zz => kernel_rfl
          case hfx15zz => kernel_rfl
          case hrx15zz => kernel_rfl
          case hQx15zz => exact fun _ _ _ h => h
          case hwx15zz => rfl
          simp only [Act.put, List.setIfInBounds_toArray, List.set_cons_succ, List.set_cons_zero]
          refine' wpAnyH_take (i := 16) ?h1x16zz ?hsx16zz ?hfx16zz ?hrx16zz ?hQx16zz (Or.inr ⟨?hwx16zz, rfl⟩) hS ?restx16zz
          case h1x16zz => (simp only [List.getElem?_toArray, List.getElem?_cons_succ, List.getElem?_cons_zero]; rfl)
          case hsx16zz => kernel_rfl
          case hfx16zz => kernel_rfl
          case hrx16zz => kernel_rfl
          case hQx16zz => exact fun _ _ _ h => h
          case hwx16zz => rfl
          simp only [Act.put, List.setIfInBounds_toArray, List.set_cons_succ, List.set_cons_zero]
          refine' wpAnyH_take (i := 17) ?h1x17zz ?hsx17zz ?hfx17zz ?hrx17zz ?hQx17zz (Or.inr ⟨?hwx17zz, rfl⟩) hS ?restx17zz
          case h1x17zz => (simp only [List.getElem?_toArray, List.getElem?_cons_succ, List.getElem?_cons_zero]; rfl)
          case hsx17zz => kernel_rfl
          case hfx17zz => kernel_rfl
          case hrx17zz => kernel_rfl
          case hQx17zz => exact fun _ _ _ h => h
          case hwx17zz => rfl
          simp only [Act.put, List.setIfInBounds_toArray, List.set_cons_succ, List.set_cons_zero]
          refine' wpAnyH_take (i := 18) ?h1x18zz ?hsx18zz ?hfx18zz ?hrx18zz ?hQx18zz (Or.inr ⟨?hwx18zz, rfl⟩) hS ?restx18zz
          case h1x18zz => (simp only [List.getElem?_toArray, List.getElem?_cons_succ, List.getElem?_cons_zero]; rfl)
          case hsx18zz => kernel_rfl
          case hfx18zz => kernel_rfl
          case hrx18zz => kernel_rfl
          case hQx18zz => exact fun _ _ _ h => h
          case hwx18zz => rfl
          simp only [Act.put, List.setIfInBounds_toArray, List.set_cons_succ, List.set_cons_zero]
          refine' wpAnyH_take (i := 19) ?h1x19zz ?hsx19zz ?hfx19zz ?hrx19zz ?hQx19zz (Or.inr ⟨?hwx19zz, rfl⟩) hS ?restx19zz
          case h1x19zz => (simp only [List.getElem?_toArray, List.getElem?_cons_succ, List.getElem?_cons_zero]; rfl)
          case hsx19zz => kernel_rfl
          case hfx19zz => kernel_rfl
          case hrx19zz => kernel_rfl
          case hQx19zz => exact fun _ _ _ h => h
          case hwx19zz => rfl
          simp only [Act.put, List.setIfInBounds_toArray, List.set_cons_succ, List.set_cons_zero]
          refine' wpAnyH_take (i := 20) ?h1x20zz ?hsx20zz ?hfx20zz ?hrx20zz ?hQx20zz (Or.inr ⟨?hwx20zz, rfl⟩) hS ?restx20zz
          case h1x20zz => (simp only [List.getElem?_toArray, List.getElem?_cons_succ, List.getElem?_cons_zero]; rfl)
          case hsx20zz => kernel_rfl
          case hfx20zz => kernel_rfl
          case hrx20zz => kernel_rfl
          case hQx20zz => exact fun _ _ _ h => h
          case hwx20zz => rfl
          simp only [Act.put, List.setIfInBounds_toArray, List.set_cons_succ, List.set_cons_zero]
          refine' wpAnyH_take (i := 21) ?h1x21zz ?hsx21zz ?hfx21zz ?hrx21zz ?hQx21zz (Or.inr ⟨?hwx21zz, rfl⟩) hS ?restx21zz
          case h1x21zz => (simp only [List.getElem?_toArray, List.getElem?_cons_succ, List.getElem?_cons_zero]; rfl)
          case hsx21zz => kernel_rfl
          case hfx21zz => kernel_rfl
          case hrx21zz => kernel_rfl
          case hQx21zz => exact fun _ _ _ h => h
          case hwx21zz => rfl
          simp only [Act.put, List.setIfInBounds_toArray, List.set_cons_succ, List.set_cons_zero]
          refine' wpAnyH_take (i := 22) ?h1x22zz ?hsx22zz ?hfx22zz ?hrx22zz ?hQx22zz (Or.inr ⟨?hwx22zz, rfl⟩) hS ?restx22zz
          case h1x22zz => (simp only [List.getElem?_toArray, List.getElem?_cons_succ, List.getElem?_cons_zero]; rfl)
          case hsx22zz => kernel_rfl
          case hfx22zz => kernel_rfl
          case hrx22zz => kernel_rfl
          case hQx22zz => exact fun _ _ _ h => h
          case hwx22zz => rfl
          simp only [Act.put, List.setIfInBounds_toArray, List.set_cons_succ, List.set_cons_zero]
          refine' wpAnyH_take (i := 23) ?h1x23zz ?hsx23zz ?hfx23zz ?hrx23zz ?hQx23zz (Or.inr ⟨?hwx23zz, rfl⟩) hS ?restx23zz
          case h1x23zz => (simp only [List.getElem?_toArray, List.getElem?_cons_succ, List.getElem?_cons_zero]; rfl)
          case hsx23zz => kernel_rfl
          case hfx23zz => kernel_rfl
          case hrx23zz => kernel_rfl
          case hQx23zz => exact fun _ _ _ h => h
          case hwx23zz => rfl
          simp only [Act.put, List.setIfInBounds_toArray, List.set_cons_succ, List.set_cons_zero]
          refine' wpAnyH_take (i := 24) ?h1x24zz ?hsx24zz ?hfx24zz ?hrx24zz ?hQx24zz (Or.inr ⟨?hwx24zz, rfl⟩) hS ?restx24zz
          case h1x24zz => (simp only [List.getElem?_toArray, List.getElem?_cons_succ, List.getElem?_cons_zero]; rfl)
          case hsx24zz => kernel_rfl
          case hfx24zz => kernel_rfl
          case hrx24zz => kernel_rfl
          case hQx24zz => exact fun _ _ _ h => h
          case hwx24zz => rfl
          simp only [Act.put, List.setIfInBounds_toArray, List.set_cons_succ, List.set_cons_zero]
          refine' wpAnyH_take (i := 25) ?h1x25zz ?hsx25zz ?hfx25zz ?hrx25zz ?hQx25zz (Or.inr ⟨?hwx25zz, rfl⟩) hS ?restx25zz
          case h1x25zz => (simp only [List.getElem?_toArray, List.getElem?_cons_succ, List.getElem?_cons_zero]; rfl)
          case hsx25zz => kernel_rfl
          case hfx25zz => kernel_rfl
          case hrx25zz => kernel_rfl
          case hQx25zz => exact fun _ _ _ h => h
          case hwx25zz => rfl
          simp only [Act.put, List.setIfInBounds_toArray, List.set_cons_succ, List.set_cons_zero]
          refine' wpAnyH_take (i := 26) ?h1x26zz ?hsx26zz ?hfx26zz ?hrx26zz ?hQx26zz (Or.inr ⟨?hwx26zz, rfl⟩) hS ?restx26zz
          case h1x26zz => (simp only [List.getElem?_toArray, List.getElem?_cons_succ, List.getElem?_cons_zero]; rfl)
          case hsx26zz => kernel_rfl
          case hfx26zz => kernel_rfl
          case hrx26zz => kernel_rfl
          case hQx26zz => exact fun _ _ _ h => h
          case hwx26zz => rfl
          simp only [Act.put, List.setIfInBounds_toArray, List.set_cons_succ, List.set_cons_zero]
          refine' wpAnyH_take (i := 27) ?h1x27zz ?hsx27zz ?hfx27zz ?hrx27zz ?hQx27zz (Or.inr ⟨?hwx27zz, rfl⟩) hS ?restx27zz
          case h1x27zz => (simp only [List.getElem?_toArray, List.getElem?_cons_succ, List.getElem?_cons_zero]; rfl)
          case hsx27zz => kernel_rfl
          case hfx27zz => kernel_rfl
          case hrx27zz => kernel_rfl
          case hQx27zz => exact fun _ _ _ h => h
          case hwx27zz => rfl
          simp only [Act.put, List.setIfInBounds_toArray, List.set_cons_succ, List.set_cons_zero]
          refine' wpAnyH_take (i := 28) ?h1x28zz ?hsx28zz ?hfx28zz ?hrx28zz ?hQx28zz (Or.inr ⟨?hwx28zz, rfl⟩) hS ?restx28zz
          case h1x28zz => (simp only [List.getElem?_toArray, List.getElem?_cons_succ, List.getElem?_cons_zero]; rfl)
          case hsx28zz => kernel_rfl
          case hfx28zz => kernel_rfl
          case hrx28zz => kernel_rfl
          case hQx28zz => exact fun _ _ _ h => h
          case hwx28zz => rfl
          simp only [Act.put, List.setIfInBounds_toArray, List.set_cons_succ, List.set_cons_zero]
          refine' wpAnyH_take (i := 29) ?h1x29zz ?hsx29zz ?hfx29zz ?hrx29zz ?hQx29zz (Or.inl ⟨?hwx29zz, ?hyx29zz⟩) hS ?restx29zz
          case h1x29zz => (simp only [List.getElem?_toArray, List.getElem?_cons_succ, List.getElem?_cons_zero]; rfl)
          case hsx29zz => kernel_rfl
          case hfx29zz => kernel_rfl
          case hrx29zz => kernel_rfl
          case hQx29zz => exact fun _ _ _ h => h
          case hwx29zz => rfl
          case hyx29zz =>
            intro W hW
            go_simp
            try with_reducible rfl
          simp only [Act.put, List.setIfInBounds_toArray, List.set_cons_succ, List.set_cons_zero]
          refine' wpAnyH_take (i := 30) ?h1x30zz ?hsx30zz ?hfx30zz ?hrx30zz ?hQx30zz (Or.inl ⟨?hwx30zz, ?hyx30zz⟩) hS ?restx30zz
          case h1x30zz => (simp only [List.getElem?_toArray, List.getElem?_cons_succ, List.getElem?_cons_zero]; rfl)
          case hsx30zz => kernel_rfl
          case hfx30zz => kernel_rfl
          case hrx30zz => kernel_rfl
          case hQx30zz => exact fun _ _ _ h => h
          case hwx30zz => rfl
          case hyx30zz =>
            intro W hW
            go_simp
            try with_reducible rfl
          simp only [Act.put, List.setIfInBounds_toArray, List.set_cons_succ, List.set_cons_zero]
          refine' wpAnyH_take (i := 31) ?h1x31zz ?hsx31zz ?hfx31zz ?hrx31zz ?hQx31zz (Or.inl ⟨?hwx31zz, ?hyx31zz⟩) hS ?restx31zz
          case h1x31zz => (simp only [List.getElem?_toArray, List.getElem?_cons_succ, List.getElem?_cons_zero]; rfl)
          case hsx31zz => kernel_rfl
          case hfx31zz => kernel_rfl
          case hrx31zz => kernel_rfl
          case hQx31zz => exact fun _ _ _ h => h
          case hwx31zz => rfl
          case hyx31zz =>
            intro W hW
            go_simp
            try with_reducible rfl
          simp only [Act.put, List.setIfInBounds_toArray, List.set_cons_succ, List.set_cons_zero]
          refine wpAnyH_done (by kernel_rfl) ?_ _
          go_wp2_with fail
          go_ret
          exact ⟨rfl, BZ.out.trans (hS.mono BZ.out.size)⟩
        · rw [HCL.out] at hc2
          cases hc2
      | some c =>
        have h2 := clk_some sha hc
        obtain ⟨t0, h0⟩ : ∃ t0, (ofSum sha T c)[0]? = some t0 := ⟨_, List.getElem?_eq_getElem (by omega)⟩
        obtain ⟨t1, h1⟩ : ∃ t1, (ofSum sha T c)[1]? = some t1 := ⟨_, List.getElem?_eq_getElem (by omega)⟩
        have CX := Lib.hid (clashY1 S g T wr c t0 t1 LX.out hc h0 h1)
        have HCL := Lib.hid hc
        have H0 := Lib.hid h0
        have H1 := Lib.hid h1
        clear hc h2 h0 h1
        go_wp2_with fail
        refine CX.out.mono ?_
        rintro e wC ⟨v0, v1, rfl, s0, s1, ⟨x0, c0, rfl⟩, ⟨x1, c1, rfl⟩, _, _, hbC⟩
        have BC := Lib.hid hbC
        have S0 := Lib.hid s0
        have S1 := Lib.hid s1
        clear s0 s1 hbC
        go_wp2_with fail
        refine (CDH.out _ BC.out).mono ?_
        rintro e wZ ⟨hcp, hbz⟩
        have BZ := Lib.hid (HBW.out.trans ((BC.out.trans (hbz.mono BC.out.size)).mono HBW.out.size))
        have SV0 := Lib.hid (S0.out.below hbz)
        have SV1 := Lib.hid (S1.out.below hbz)
        have DZ := Lib.hid ((LY.out.below BC.out).below hbz)
        clear hbz
        rcases hcp with ⟨hc2, _⟩ | ⟨k, m, c', s, t, rfl, hc2, h02, h12, hk, hm⟩
        · rw [HCL.out] at hc2
          cases hc2
        · rw [HCL.out] at hc2
          simp only [Option.some.injEq] at hc2
          subst hc2
          rw [H0.out] at h02
          rw [H1.out] at h12
          simp only [Option.some.injEq] at h02 h12
          subst h02
          subst h12
          obtain ⟨xd, cd, c0z, hlz, hrz⟩ := DZ.out.read
          obtain ⟨gb, u0, rfl, hgl, hcu0, hsu0⟩ := hrz k _ hk
          obtain ⟨gb', u1, hxg, _, hcu1, hsu1⟩ := hrz m _ hm
          simp only [Option.some.injEq, Addr.mk.injEq] at hxg
          obtain ⟨rfl, _⟩ := hxg
          have C0Z := Lib.hid c0z
          have HLZ := Lib.hid hlz
          have LGB := Lib.hid hgl
          have CU0 := Lib.hid hcu0
          have CU1 := Lib.hid hcu1
          have SU0 := Lib.hid hsu0
          have SU1 := Lib.hid hsu1
          have KL := Lib.hid (List.getElem?_eq_some_iff.1 hk).1
          have ML := Lib.hid (List.getElem?_eq_some_iff.1 hm).1
          have SQ0 : Hid (((strOfNums t0).toList == (strOfNums t0).toList) = true) := by show _ = _; rw [str_eq hsu0.1 hsu0.1]; exact decide_eq_true rfl
          have SQ1 : Hid (((strOfNums t1).toList == (strOfNums t1).toList) = true) := by show _ = _; rw [str_eq hsu1.1 hsu1.1]; exact decide_eq_true rfl
          obtain ⟨lt, hlt'⟩ : ∃ lt, lt = T.length := ⟨_, rfl⟩
          rw [← hlt'] at C0Z KL ML
          have hkl : (k : Int) < (lt : Int) := by have := KL.out; omega
          have hml : (m : Int) < (lt : Int) := by have := ML.out; omega
          clear c0z hlz hrz hgl hcu0 hcu1 hsu0 hsu1 hk hm hlt'
          go_wp2_with fail
          refine wp_region_held_drew (S := fun W => Below wZ.heap.size wZ W) (by kernel_rfl) (Below.refl _ _).drew (fun hS => ?_)
          have G22 := Lib.hid (HGL.out.below (BZ.out.trans (hS.mono BZ.out.size)) H2.out)
          refine wpAnyH_ready (rs := [0]) (by kernel_rfl) (by simp) ?_
          refine' AllReadyH.cons ?hoc0vv (fun K hK => ?stc0vv) AllReadyH.nil
          case hoc0vv => (simp only [List.getElem?_toArray, List.getElem?_cons_zero]; rfl)
          go_simp
          refine (alive8 _ G22.out).mono ?_
          rintro e wA ⟨rfl, hb⟩
          go_wp2_with fail
          refine hK.out _ _ (hS.trans (hb.mono hS.size)) (fun hHeld => ?_)
          clear hK K
          try simp only [Act.put, List.setIfInBounds_toArray, List.set_cons_succ, List.set_cons_zero]
          clear hS hb
          have hS := hHeld
          clear hHeld
          refine' wpAnyH_take (i := 1) ?h1x1vv ?hsx1vv ?hfx1vv ?hrx1vv ?hQx1vv (Or.inl ⟨?hwx1vv, ?hyx1vv⟩) hS ?restx1vv
          case h1x1vv => (simp only [List.getElem?_toArray, List.getElem?_cons_succ, List.getElem?_cons_zero]; rfl)
          case hsx1vv => kernel_rfl
          case hfx1vv => kernel_rfl
          case hrx1vv => kernel_rfl
          case hQx1vv => exact fun _ _ _ h => h
          case hwx1vv => rfl
          case hyx1vv =>
            intro W hW
            go_simp
            try with_reducible rfl
          simp only [Act.put, List.setIfInBounds_toArray, List.set_cons_succ, List.set_cons_zero]
          refine' wpAnyH_take (i := 2) ?h1x2vv ?hsx2vv ?hfx2vv ?hrx2vv ?hQx2vv (Or.inl ⟨?hwx2vv, ?hyx2vv⟩) hS ?restx2vv
          case h1x2vv => (simp only [List.getElem?_toArray, List.getElem?_cons_succ, List.getElem?_cons_zero]; rfl)
          case hsx2vv => kernel_rfl
          case hfx2vv => kernel_rfl
          case hrx2vv => kernel_rfl
          case hQx2vv => exact fun _ _ _ h => h
          case hwx2vv => rfl
          case hyx2vv =>
            intro W hW
            go_simp
            try with_reducible rfl
          simp only [Act.put, List.setIfInBounds_toArray, List.set_cons_succ, List.set_cons_zero]
          refine' wpAnyH_take (i := 3) ?h1x3vv ?hsx3vv ?hfx3vv ?hrx3vv ?hQx3vv (Or.inl ⟨?hwx3vv, ?hyx3vv⟩) hS ?restx3vv
          case h1x3vv => (simp only [List.getElem?_toArray, List.getElem?_cons_succ, List.getElem?_cons_zero]; rfl)
          case hsx3vv => kernel_rfl
          case hfx3vv => kernel_rfl
          case hrx3vv => kernel_rfl
          case hQx3vv => exact fun _ _ _ h => h
          case hwx3vv => rfl
          case hyx3vv =>
            intro W hW
            go_simp
            try with_reducible rfl
          simp only [Act.put, List.setIfInBounds_toArray, List.set_cons_succ, List.set_cons_zero]
          refine' wpAnyH_take (i := 4) ?h1x4vv ?hsx4vv ?hfx4vv ?hrx4vv ?hQx4vv (Or.inl ⟨?hwx4vv, ?hyx4vv⟩) hS ?restx4vv
          case h1x4vv => (simp only [List.getElem?_toArray, List.getElem?_cons_succ, List.getElem?_cons_zero]; rfl)
          case hsx4vv => kernel_rfl
          case hfx4vv => kernel_rfl
          case hrx4vv => kernel_rfl
          case hQx4vv => exact fun _ _ _ h => h
          case hwx4vv => rfl
          case hyx4vv =>
            intro W hW
            go_simp
            try with_reducible rfl
          simp only [Act.put, List.setIfInBounds_toArray, List.set_cons_succ, List.set_cons_zero]
          refine' wpAnyH_take (i := 5) ?h1x5vv ?hsx5vv ?hfx5vv ?hrx5vv ?hQx5vv (Or.inl ⟨?hwx5vv, ?hyx5vv⟩) hS ?restx5vv
          case h1x5vv => (simp only [List.getElem?_toArray, List.getElem?_cons_succ, List.getElem?_cons_zero]; rfl)
          case hsx5vv => kernel_rfl
          case hfx5vv => kernel_rfl
          case hrx5vv => kernel_rfl
          case hQx5vv => exact fun _ _ _ h => h
          case hwx5vv => rfl
          case hyx5vv =>
            intro W hW
            go_simp
            try with_reducible rfl
          simp only [Act.put, List.setIfInBounds_toArray, List.set_cons_succ, List.set_cons_zero]
          refine' wpAnyH_take (i := 6) ?h1x6vv ?hsx6vv ?hfx6vv ?hrx6vv ?hQx6vv (Or.inl ⟨?hwx6vv, ?hyx6vv⟩) hS ?restx6vv
          case h1x6vv => (simp only [List.getElem?_toArray, List.getElem?_cons_succ, List.getElem?_cons_zero]; rfl)
          case hsx6vv => kernel_rfl
          case hfx6vv => kernel_rfl
          case hrx6vv => kernel_rfl
          case hQx6vv => exact fun _ _ _ h => h
          case hwx6vv => rfl
          case hyx6vv =>
            intro W hW
            have st := (SV0.out.below hW).str
            go_simp
            try with_reducible rfl
          simp only [Act.put, List.setIfInBounds_toArray, List.set_cons_succ, List.set_cons_zero]
          refine' wpAnyH_take (i := 7) ?h1x7vv ?hsx7vv ?hfx7vv ?hrx7vv ?hQx7vv (Or.inl ⟨?hwx7vv, ?hyx7vv⟩) hS ?restx7vv
          case h1x7vv => (simp only [List.getElem?_toArray, List.getElem?_cons_succ, List.getElem?_cons_zero]; rfl)
          case hsx7vv => kernel_rfl
          case hfx7vv => kernel_rfl
          case hrx7vv => kernel_rfl
          case hQx7vv => exact fun _ _ _ h => h
          case hwx7vv => rfl
          case hyx7vv =>
            intro W hW
            go_simp
            try with_reducible rfl
          simp only [Act.put, List.setIfInBounds_toArray, List.set_cons_succ, List.set_cons_zero]
          refine' wpAnyH_take (i := 8) ?h1x8vv ?hsx8vv ?hfx8vv ?hrx8vv ?hQx8vv (Or.inl ⟨?hwx8vv, ?hyx8vv⟩) hS ?restx8vv
          case h1x8vv => (simp only [List.getElem?_toArray, List.getElem?_cons_succ, List.getElem?_cons_zero]; rfl)
          case hsx8vv => kernel_rfl
          case hfx8vv => kernel_rfl
          case hrx8vv => kernel_rfl
          case hQx8vv => exact fun _ _ _ h => h
          case hwx8vv => rfl
          case hyx8vv =>
            intro W hW
            go_simp
            try with_reducible rfl
          simp only [Act.put, List.setIfInBounds_toArray, List.set_cons_succ, List.set_cons_zero]
          refine' wpAnyH_take (i := 9) ?h1x9vv ?hsx9vv ?hfx9vv ?hrx9vv ?hQx9vv (Or.inl ⟨?hwx9vv, ?hyx9vv⟩) hS ?restx9vv
          case h1x9vv => (simp only [List.getElem?_toArray, List.getElem?_cons_succ, List.getElem?_cons_zero]; rfl)
          case hsx9vv => kernel_rfl
          case hfx9vv => kernel_rfl
          case hrx9vv => kernel_rfl
          case hQx9vv => exact fun _ _ _ h => h
          case hwx9vv => rfl
          case hyx9vv =>
            intro W hW
            go_simp
            try with_reducible rfl
          simp only [Act.put, List.setIfInBounds_toArray, List.set_cons_succ, List.set_cons_zero]
          refine' wpAnyH_take (i := 10) ?h1x10vv ?hsx10vv ?hfx10vv ?hrx10vv ?hQx10vv (Or.inl ⟨?hwx10vv, ?hyx10vv⟩) hS ?restx10vv
          case h1x10vv => (simp only [List.getElem?_toArray, List.getElem?_cons_succ, List.getElem?_cons_zero]; rfl)
          case hsx10vv => kernel_rfl
          case hfx10vv => kernel_rfl
          case hrx10vv => kernel_rfl
          case hQx10vv => exact fun _ _ _ h => h
          case hwx10vv => rfl
          case hyx10vv =>
            intro W hW
            have c0 := (hW.cell (p := ⟨h, 0, none⟩) HLZ.out).trans C0Z.out
            go_simp
            try with_reducible rfl
          simp only [Act.put, List.setIfInBounds_toArray, List.set_cons_succ, List.set_cons_zero]
          refine' wpAnyH_take (i := 11) ?h1x11vv ?hsx11vv ?hfx11vv ?hrx11vv ?hQx11vv (Or.inl ⟨?hwx11vv, ?hyx11vv⟩) hS ?restx11vv
          case h1x11vv => (simp only [List.getElem?_toArray, List.getElem?_cons_succ, List.getElem?_cons_zero]; rfl)
          case hsx11vv => kernel_rfl
          case hfx11vv => kernel_rfl
          case hrx11vv => kernel_rfl
          case hQx11vv => exact fun _ _ _ h => h
          case hwx11vv => rfl
          case hyx11vv =>
            intro W hW
            go_simp
            try with_reducible rfl
          simp only [Act.put, List.setIfInBounds_toArray, List.set_cons_succ, List.set_cons_zero]
          refine' wpAnyH_take (i := 12) ?h1x12vv ?hsx12vv ?hfx12vv ?hrx12vv ?hQx12vv (Or.inl ⟨?hwx12vv, ?hyx12vv⟩) hS ?restx12vv
          case h1x12vv => (simp only [List.getElem?_toArray, List.getElem?_cons_succ, List.getElem?_cons_zero]; rfl)
          case hsx12vv => kernel_rfl
          case hfx12vv => kernel_rfl
          case hrx12vv => kernel_rfl
          case hQx12vv => exact fun _ _ _ h => h
          case hwx12vv => rfl
          case hyx12vv =>
            intro W hW
            go_simp
            try with_reducible rfl
          simp only [Act.put, List.setIfInBounds_toArray, List.set_cons_succ, List.set_cons_zero]
          refine' wpAnyH_take (i := 13) ?h1x13vv ?hsx13vv ?hfx13vv ?hrx13vv ?hQx13vv (Or.inl ⟨?hwx13vv, ?hyx13vv⟩) hS ?restx13vv
          case h1x13vv => (simp only [List.getElem?_toArray, List.getElem?_cons_succ, List.getElem?_cons_zero]; rfl)
          case hsx13vv => kernel_rfl
          case hfx13vv => kernel_rfl
          case hrx13vv => kernel_rfl
          case hQx13vv => exact fun _ _ _ h => h
          case hwx13vv => rfl
          case hyx13vv =>
            intro W hW
            have cu := (hW.cell (p := ⟨gb, k, none⟩) LGB.out).trans CU0.out
            go_simp
            try with_reducible rfl
          simp only [Act.put, List.setIfInBounds_toArray, List.set_cons_succ, List.set_cons_zero]
          refine' wpAnyH_take (i := 14) ?h1x14vv ?hsx14vv ?hfx14vv ?hrx14vv ?hQx14vv (Or.inl ⟨?hwx14vv, ?hyx14vv⟩) hS ?restx14vv
          case h1x14vv => (simp only [List.getElem?_toArray, List.getElem?_cons_succ, List.getElem?_cons_zero]; rfl)
          case hsx14vv => kernel_rfl
          case hfx14vv => kernel_rfl
          case hrx14vv => kernel_rfl
          case hQx14vv => exact fun _ _ _ h => h
          case hwx14vv => rfl
          case hyx14vv =>
            intro W hW
            have st := (SU0.out.below hW).str
            go_simp
            try with_reducible rfl
          simp only [Act.put, List.setIfInBounds_toArray, List.set_cons_succ, List.set_cons_zero]
          refine' wpAnyH_take (i := 15) ?h1x15vv ?hsx15vv ?hfx15vv ?hrx15vv ?hQx15vv (Or.inl ⟨?hwx15vv, ?hyx15vv⟩) hS ?restx15vv
          case h1x15vv => (simp only [List.getElem?_toArray, List.getElem?_cons_succ, List.getElem?_cons_zero]; rfl)
          case hsx15vv => kernel_rfl
          case hfx15vv => kernel_rfl
          case hrx15vv => kernel_rfl
          case hQx15vv => exact fun _ _ _ h => h
          case hwx15vv => rfl
          case hyx15vv =>
            intro W hW
            have sq := SQ0.out
            go_simp
            try with_reducible rfl
          simp only [Act.put, List.setIfInBounds_toArray, List.set_cons_succ, List.set_cons_zero]
          refine' wpAnyH_take (i := 16) ?h1x16vv ?hsx16vv ?hfx16vv ?hrx16vv ?hQx16vv (Or.inl ⟨?hwx16vv, ?hyx16vv⟩) hS ?restx16vv
          case h1x16vv => (simp only [List.getElem?_toArray, List.getElem?_cons_succ, List.getElem?_cons_zero]; rfl)
          case hsx16vv => kernel_rfl
          case hfx16vv => kernel_rfl
          case hrx16vv => kernel_rfl
          case hQx16vv => exact fun _ _ _ h => h
          case hwx16vv => rfl
          case hyx16vv =>
            intro W hW
            go_simp
            try with_reducible rfl
          simp only [Act.put, List.setIfInBounds_toArray, List.set_cons_succ, List.set_cons_zero]
          refine' wpAnyH_take (i := 17) ?h1x17vv ?hsx17vv ?hfx17vv ?hrx17vv ?hQx17vv (Or.inl ⟨?hwx17vv, ?hyx17vv⟩) hS ?restx17vv
          case h1x17vv => (simp only [List.getElem?_toArray, List.getElem?_cons_succ, List.getElem?_cons_zero]; rfl)
          case hsx17vv => kernel_rfl
          case hfx17vv => kernel_rfl
          case hrx17vv => kernel_rfl
          case hQx17vv => exact fun _ _ _ h => h
          case hwx17vv => rfl
          case hyx17vv =>
            intro W hW
            go_simp
            try with_reducible rfl
          simp only [Act.put, List.setIfInBounds_toArray, List.set_cons_succ, List.set_cons_zero]
          refine' wpAnyH_take (i := 18) ?h1x18vv ?hsx18vv ?hfx18vv ?hrx18vv ?hQx18vv (Or.inl ⟨?hwx18vv, ?hyx18vv⟩) hS ?restx18vv
          case h1x18vv => (simp only [List.getElem?_toArray, List.getElem?_cons_succ, List.getElem?_cons_zero]; rfl)
          case hsx18vv => kernel_rfl
          case hfx18vv => kernel_rfl
          case hrx18vv => kernel_rfl
          case hQx18vv => exact fun _ _ _ h => h
          case hwx18vv => rfl
          case hyx18vv =>
            intro W hW
            have st := (SV1.out.below hW).str
            go_simp
            try with_reducible rfl
          simp only [Act.put, List.setIfInBounds_toArray, List.set_cons_succ, List.set_cons_zero]
          refine' wpAnyH_take (i := 19) ?h1x19vv ?hsx19vv ?hfx19vv ?hrx19vv ?hQx19vv (Or.inl ⟨?hwx19vv, ?hyx19vv⟩) hS ?restx19vv
          case h1x19vv => (simp only [List.getElem?_toArray, List.getElem?_cons_succ, List.getElem?_cons_zero]; rfl)
          case hsx19vv => kernel_rfl
          case hfx19vv => kernel_rfl
          case hrx19vv => kernel_rfl
          case hQx19vv => exact fun _ _ _ h => h
          case hwx19vv => rfl
          case hyx19vv =>
            intro W hW
            go_simp
            try with_reducible rfl
          simp only [Act.put, List.setIfInBounds_toArray, List.set_cons_succ, List.set_cons_zero]
          refine' wpAnyH_take (i := 20) ?h1x20vv ?hsx20vv ?hfx20vv ?hrx20vv ?hQx20vv (Or.inl ⟨?hwx20vv, ?hyx20vv⟩) hS ?restx20vv
          case h1x20vv => (simp only [List.getElem?_toArray, List.getElem?_cons_succ, List.getElem?_cons_zero]; rfl)
          case hsx20vv => kernel_rfl
          case hfx20vv => kernel_rfl
          case hrx20vv => kernel_rfl
          case hQx20vv => exact fun _ _ _ h => h
          case hwx20vv => rfl
          case hyx20vv =>
            intro W hW
            go_simp
            try with_reducible rfl
          simp only [Act.put, List.setIfInBounds_toArray, List.set_cons_succ, List.set_cons_zero]
          refine' wpAnyH_take (i := 21) ?h1x21vv ?hsx21vv ?hfx21vv ?hrx21vv ?hQx21vv (Or.inl ⟨?hwx21vv, ?hyx21vv⟩) hS ?restx21vv
          case h1x21vv => (simp only [List.getElem?_toArray, List.getElem?_cons_succ, List.getElem?_cons_zero]; rfl)
          case hsx21vv => kernel_rfl
          case hfx21vv => kernel_rfl
          case hrx21vv => kernel_rfl
          case hQx21vv => exact fun _ _ _ h => h
          case hwx21vv => rfl
          case hyx21vv =>
            intro W hW
            go_simp
            try with_reducible rfl
          simp only [Act.put, List.setIfInBounds_toArray, List.set_cons_succ, List.set_cons_zero]
          refine' wpAnyH_take (i := 22) ?h1x22vv ?hsx22vv ?hfx22vv ?hrx22vv ?hQx22vv (Or.inl ⟨?hwx22vv, ?hyx22vv⟩) hS ?restx22vv
          case h1x22vv => (simp only [List.getElem?_toArray, List.getElem?_cons_succ, List.getElem?_cons_zero]; rfl)
          case hsx22vv => kernel_rfl
          case hfx22vv => kernel_rfl
          case hrx22vv => kernel_rfl
          case hQx22vv => exact fun _ _ _ h => h
          case hwx22vv => rfl
          case hyx22vv =>
            intro W hW
            have c0 := (hW.cell (p := ⟨h, 0, none⟩) HLZ.out).trans C0Z.out
            go_simp
            try with_reducible rfl
          simp only [Act.put, List.setIfInBounds_toArray, List.set_cons_succ, List.set_cons_zero]
          refine' wpAnyH_take (i := 23) ?h1x23vv ?hsx23vv ?hfx23vv ?hrx23vv ?hQx23vv (Or.inl ⟨?hwx23vv, ?hyx23vv⟩) hS ?restx23vv
          case h1x23vv => (simp only [List.getElem?_toArray, List.getElem?_cons_succ, List.getElem?_cons_zero]; rfl)
          case hsx23vv => kernel_rfl
          case hfx23vv => kernel_rfl
          case hrx23vv => kernel_rfl
          case hQx23vv => exact fun _ _ _ h => h
          case hwx23vv => rfl
          case hyx23vv =>
            intro W hW
            go_simp
            try with_reducible rfl
          simp only [Act.put, List.setIfInBounds_toArray, List.set_cons_succ, List.set_cons_zero]
          refine' wpAnyH_take (i := 24) ?h1x24vv ?hsx24vv ?hfx24vv ?hrx24vv ?hQx24vv (Or.inl ⟨?hwx24vv, ?hyx24vv⟩) hS ?restx24vv
          case h1x24vv => (simp only [List.getElem?_toArray, List.getElem?_cons_succ, List.getElem?_cons_zero]; rfl)
          case hsx24vv => kernel_rfl
          case hfx24vv => kernel_rfl
          case hrx24vv => kernel_rfl
          case hQx24vv => exact fun _ _ _ h => h
          case hwx24vv => rfl
          case hyx24vv =>
            intro W hW
            go_simp
            try with_reducible rfl
          simp only [Act.put, List.setIfInBounds_toArray, List.set_cons_succ, List.set_cons_zero]
          refine' wpAnyH_take (i := 25) ?h1x25vv ?hsx25vv ?hfx25vv ?hrx25vv ?hQx25vv (Or.inl ⟨?hwx25vv, ?hyx25vv⟩) hS ?restx25vv
          case h1x25vv => (simp only [List.getElem?_toArray, List.getElem?_cons_succ, List.getElem?_cons_zero]; rfl)
          case hsx25vv => kernel_rfl
          case hfx25vv => kernel_rfl
          case hrx25vv => kernel_rfl
          case hQx25vv => exact fun _ _ _ h => h
          case hwx25vv => rfl
          case hyx25vv =>
            intro W hW
            have cu := (hW.cell (p := ⟨gb, m, none⟩) LGB.out).trans CU1.out
            go_simp
            try with_reducible rfl
          simp only [Act.put, List.setIfInBounds_toArray, List.set_cons_succ, List.set_cons_zero]
          refine' wpAnyH_take (i := 26) ?h1x26vv ?hsx26vv ?hfx26vv ?hrx26vv ?hQx26vv (Or.inl ⟨?hwx26vv, ?hyx26vv⟩) hS ?restx26vv
          case h1x26vv => (simp only [List.getElem?_toArray, List.getElem?_cons_succ, List.getElem?_cons_zero]; rfl)
          case hsx26vv => kernel_rfl
          case hfx26vv => kernel_rfl
          case hrx26vv => kernel_rfl
          case hQx26vv => exact fun _ _ _ h => h
          case hwx26vv => rfl
          case hyx26vv =>
            intro W hW
            have st := (SU1.out.below hW).str
            go_simp
            try with_reducible rfl
          simp only [Act.put, List.setIfInBounds_toArray, List.set_cons_succ, List.set_cons_zero]
          refine' wpAnyH_take (i := 27) ?h1x27vv ?hsx27vv ?hfx27vv ?hrx27vv ?hQx27vv (Or.inl ⟨?hwx27vv, ?hyx27vv⟩) hS ?restx27vv
          case h1x27vv => (simp only [List.getElem?_toArray, List.getElem?_cons_succ, List.getElem?_cons_zero]; rfl)
          case hsx27vv => kernel_rfl
          case hfx27vv => kernel_rfl
          case hrx27vv => kernel_rfl
          case hQx27vv => exact fun _ _ _ h => h
          case hwx27vv => rfl
          case hyx27vv =>
            intro W hW
            have sq := SQ1.out
            go_simp
            try with_reducible rfl
          simp only [Act.put, List.setIfInBounds_toArray, List.set_cons_succ, List.set_cons_zero]
          refine' wpAnyH_take (i := 28) ?h1x28vv ?hsx28vv ?hfx28vv ?hrx28vv ?hQx28vv (Or.inl ⟨?hwx28vv, ?hyx28vv⟩) hS ?restx28vv
          case h1x28vv => (simp only [List.getElem?_toArray, List.getElem?_cons_succ, List.getElem?_cons_zero]; rfl)
          case hsx28vv => kernel_rfl
          case hfx28vv => kernel_rfl
          case hrx28vv => kernel_rfl
          case hQx28vv => exact fun _ _ _ h => h
          case hwx28vv => rfl
          case hyx28vv =>
            intro W hW
            go_simp
            try with_reducible rfl
          simp only [Act.put, List.setIfInBounds_toArray, List.set_cons_succ, List.set_cons_zero]
          refine' wpAnyH_take (i := 29) ?h1x29vv ?hsx29vv ?hfx29vv ?hrx29vv ?hQx29vv (Or.inl ⟨?hwx29vv, ?hyx29vv⟩) hS ?restx29vv
          case h1x29vv => (simp only [List.getElem?_toArray, List.getElem?_cons_succ, List.getElem?_cons_zero]; rfl)
          case hsx29vv => kernel_rfl
          case hfx29vv => kernel_rfl
          case hrx29vv => kernel_rfl
          case hQx29vv => exact fun _ _ _ h => h
          case hwx29vv => rfl
          case hyx29vv =>
            intro W hW
            go_simp
            try with_reducible rfl
          simp only [Act.put, List.setIfInBounds_toArray, List.set_cons_succ, List.set_cons_zero]
          refine' wpAnyH_take (i := 30) ?h1x30vv ?hsx30vv ?hfx30vv ?hrx30vv ?hQx30vv (Or.inl ⟨?hwx30vv, ?hyx30vv⟩) hS ?restx30vv
          case h1x30vv => (simp only [List.getElem?_toArray, List.getElem?_cons_succ, List.getElem?_cons_zero]; rfl)
          case hsx30vv => kernel_rfl
          case hfx30vv => kernel_rfl
          case hrx30vv => kernel_rfl
          case hQx30vv => exact fun _ _ _ h => h
          case hwx30vv => rfl
          case hyx30vv =>
            intro W hW
            go_simp
            try with_reducible rfl
          simp only [Act.put, List.setIfInBounds_toArray, List.set_cons_succ, List.set_cons_zero]
          refine' wpAnyH_take (i := 31) ?h1x31vv ?hsx31vv ?hfx31vv ?hrx31vv ?hQx31vv (Or.inl ⟨?hwx31vv, ?hyx31vv⟩) hS ?restx31vv
          case h1x31vv => (simp only [List.getElem?_toArray, List.getElem?_cons_succ, List.getElem?_cons_zero]; rfl)
          case hsx31vv => kernel_rfl
          case hfx31vv => kernel_rfl
          case hrx31vv => kernel_rfl
          case hQx31vv => exact fun _ _ _ h => h
          case hwx31vv => rfl
          case hyx31vv =>
            intro W hW
            go_simp
            try with_reducible rfl
          simp only [Act.put, List.setIfInBounds_toArray, List.set_cons_succ, List.set_cons_zero]
          refine wpAnyH_done (by kernel_rfl) ?_ _
          go_wp2_with fail
          go_ret
          exact ⟨rfl, BZ.out.trans (hS.mono BZ.out.size)⟩
theorem walkI (xss : List (List Int)) (a : List Int) (vl va : Value) (w : World) (hG : Glob w) (hm : SeesM w vl xss) (ha : Sees w va a) : Calls Tryd.prog 3 #[vl, va] w fun e w' => e = .returned (.bool true) ∧ Below w.heap.size w w' := by
  obtain ⟨xa, ca, rfl, _⟩ := ha.form
  by_cases h : 40 < xss.length ∨ 300 < a.length
  · obtain ⟨xl, cl, rfl, _⟩ := form_m hm
    exact walkBig xl xa _ _ cl ca w hG h
  · exact walk xss a vl xa _ ca w hG hm ha rfl (by omega) (by omega)

set_option maxRecDepth 100000 in
theorem lifted (os : Os) (started : os.Started) (H : Type) (enc : TypeId × Value → H) :
    ReturnsInHanded {} Tryd.checked os 3 .any (fun w args => (Rows.hashlogLivesSpec.pre enc Tryd.prog Tryd.f3 [] false w args ∧ laidMetH Tryd.prog laid2 w) ∧ sizedMet enc Tryd.prog Tryd.f3 (OpenSpec.ofChange Rows.hashlogLivesSpec) false w args)
      (Rows.hashlogLivesSpec.post enc Tryd.prog Tryd.f3 false true false false) := by
  refine returnsInHanded_of_change_and (C := Tryd.checked) (X := fun w _ => laidMetH Tryd.prog laid2 w) (fun _ _ _ hh h => h.of_heap hh) own started (by kernel_rfl) Tryd.func3
    (ChangeSpec.witness_shaped (enc := enc) (C := Tryd.checked) (os := os) (X := fun w _ => laidMetH Tryd.prog laid2 w) false (World.doorLaid Tryd.prog 400 os) #[.slice none 0 0, .slice none 0 0] 8 rfl (World.shaped_of_RefB (by kernel_rfl) (by kernel_rfl)) (by kernel_rfl) (by kernel_rfl) (by kernel_rfl) (door_met os _)) ?_
  intro W base args ds gs before hval0 hW _ _ hL _
  have hval : ∀ (j : Nat) t v, Tryd.f3.params[j]? = some t → args[j]? = some v → Value.okWide Tryd.prog W .any base t v := hval0
  have hW' := hW
  obtain ⟨p, q, hA0, hV, rfl, hfz, hnd⟩ := hW
  have hA : DataW.TrodAll enc Tryd.prog W 0 (fun _ => true) true Tryd.f3.params.toList args.toList ds p := hA0
  rw [Tryd.params3] at hA hval
  obtain ⟨v0, vs0, d0, ds0, p0, q0, hargs, rfl, rfl, h0, r0⟩ := trodAll_cons hA
  obtain ⟨v1, vs1, d1, ds1, p1, q1, rfl, rfl, rfl, h1, r1⟩ := trodAll_cons r0
  obtain ⟨rfl, rfl, rfl⟩ := trodAll_nil r1
  obtain rfl : args = #[v0, v1] := by cases args; simp_all
  obtain ⟨rfl, rfl⟩ := trodVars_none hV
  obtain ⟨x0, s0⟩ := open_texts (hval 0 22 v0 rfl rfl) h0
  obtain ⟨x1, s1⟩ := open_sees (hval 1 23 v1 rfl rfl) h1
  refine (walkI x0 x1 v0 v1 W (of_laid hL) s0 s1).mono fun e W' ⟨he, hb⟩ => ?_
  subst he
  exact ⟨_, rfl, law_post hW' rfl rfl rfl (by kernel_rfl) hb⟩
/-- The row's statement. -/
theorem row_holds : Rows.HashlogLivesSaid :=
  OpenClaim.holds_of_wide 3 Tryd.f3 rfl rfl rfl rfl rfl rfl rfl ⟨rfl, rfl, rfl, rfl, rfl⟩ rfl rfl rfl rfl rfl (by kernel_rfl) Tryd.func3 (by kernel_rfl)
    (of_decide_eq_true (by kernel_rfl)) (by unfold Func.isWrapper; first | (rw [if_pos (by decide +kernel)]; kernel_rfl) | (rw [if_neg (by decide +kernel)]; exact ⟨rfl, rfl⟩))
    (fun os started H enc _ => lifted os started H enc)
/-- The tied card. -/
theorem proved : Rows.HashlogLivesCardSaid :=
  Claim7.holds_tied_plain_at .later [] [.data, .data] true (true, "d480036ef970937bd262da45ca70bea84650359a340a4447fa45a1141bb94ffb") false
    row_holds (fun _ h => by cases h) (by kernel_rfl) (fun _ h => by cases h) hashlogLives_row_tie rfl ⟨rfl, rfl⟩ (by kernel_rfl) rfl
    (fun f fn hf hfn => by
      obtain rfl : f = 3 := Option.some.inj ((show Tryd.prog.funcNamed "casemate/casematelaw08.HashlogLives" = some 3 by kernel_rfl).symm.trans hf) |>.symm
      obtain rfl : fn = Tryd.f3 := (Option.some.inj (Tryd.func3.symm.trans hfn)).symm
      exact ⟨by kernel_rfl, fun j t ht => by
        rw [Tryd.params3] at ht
        have hm : t ∈ [22, 23] := by simpa using Array.mem_of_getElem? ht
        have hall : ([22, 23].all fun u => !Tryd.prog.wantsStandIn u) = true := by kernel_rfl
        exact (show Tryd.prog.wantsStandIn t = false by simpa using List.all_eq_true.1 hall t hm)⟩)
    (by kernel_rfl)
#print axioms proved
end Go.Proofs.YtboaceabimlodaaDoor.hashlogLives
