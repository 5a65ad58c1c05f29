/-
  For every key the law AesWords of package casematelaw05 returns true, and it reads afterwards as before: each key has the words that the document says. Condition: none.
-/
import Derived.Test.YtekffhopmicalaaRefG
import Derived.Test.YtekffhopmicalaaAesAl
import Derived.BigQuiet
import Derived.Deep.QuietTactic
namespace Go.Proofs.Ytekffhopmicalaa.aesWords
open Go.ChangeShapes Go.WideShapes Go.ChangeAt Go.RowKit
theorem at_zeros (n i : Nat) : at_ (zeros n) i = 0 := by
  unfold at_ zeros
  simp [List.getD, List.getElem?_replicate]
  split <;> rfl
theorem bts_zeros (n : Nat) : Bts n (zeros n) := bts_of (zeros_len n) (fun i _ => by rw [at_zeros]; omega)
theorem lat_len (key : List Nat) (hk : Bts 32 key) (i : Nat) (hi : i < 60) : (lat (wk key 60) i).length = 4 := (nextw_bts4 hk i hi).1
theorem lat_flat (key : List Nat) (hk : Bts 32 key) (i : Nat) (hi : i < 60) : ((flat key).drop (i * 4)).take 4 = lat (wk key 60) i := by
  have l1 : (((flat key).drop (i * 4)).take 4).length = 4 := by rw [List.length_take, List.length_drop, (flat_bts hk).1]; omega
  refine List.ext_getElem (by rw [l1, lat_len key hk i hi]) fun k h1 h2 => ?_
  rw [l1] at h1
  have e := flat_at key i k hi h1
  rw [List.getElem_take, List.getElem_drop]
  have a1 : at_ (flat key) (4 * i + k) = (flat key)[i * 4 + k]'(by rw [(flat_bts hk).1]; omega) := by
    unfold at_
    rw [List.getD_eq_getElem?_getD, show 4 * i + k = i * 4 + k by omega, List.getElem?_eq_getElem (by rw [(flat_bts hk).1]; omega)]; rfl
  have a2 : at_ (lat (wk key 60) i) k = (lat (wk key 60) i)[k] := by
    unfold at_
    rw [List.getD_eq_getElem?_getD, List.getElem?_eq_getElem h2]; rfl
  rw [← a1, ← a2, e]
set_option maxRecDepth 100000 in
set_option maxHeartbeats 8000000 in
theorem walk (key : List Nat) (hk : Bts 32 key) (w : World) : Calls Try.prog 3 #[.agg (ncells key)] w fun e w' => e = .returned (.bool true) ∧ Below w.heap.size w w' := by
  have NW : Hid (∀ W : World, Calls Try.prog 17 #[.agg (ncells key)] W (NewP W (flat key))) := fun W => newC key hk W
  have RN : Hid (∀ (W : World) (q : Nat), W.heap[q]? = some (.cells (ncells key) 23 (0, 0)) → Calls Try.prog 18 #[.slice (some ⟨q, 0, none⟩) 32 32] W fun e w' => ∃ g, e = .returned (.pointer (some ⟨g, 0, none⟩)) ∧ RC w' g key ∧ Below W.heap.size W w') := fun W q h =>
    refNew key q 0 32 W hk (fun i hi => by rw [Nat.zero_add]; exact cell_at h hk.1 hi) (Nat.le_refl _) (by simp [maxLen])
  have WC : Hid (∀ (g : Nat) (W : World), CIat W g (flat key) → Calls Try.prog 19 #[.pointer (some ⟨g, 0, none⟩)] W fun e w' => e = .returned (.agg (ncells (flat key))) ∧ Below W.heap.size W w') := fun g W h => wordsC (flat key) (flat_bts hk).1 g W h
  have WN : Hid (∀ W : World, Calls Try.prog 19 #[.pointer none] W fun e w' => e = .returned (.agg (ncells (zeros 240))) ∧ Below W.heap.size W w') := fun W => wordsNil W
  have EQ : Hid (∀ W : World, (Op.equalIn 10000 30 (.agg (ncells (zeros 240))) (.agg (ncells (zeros 240)))).run Try.prog W = .ok true W) := fun W => eq30 _ (bts_zeros 240) W
  have KL := Lib.hid hk.1
  have FB : Hid (Bts 240 (flat key)) := flat_bts hk
  have LF : Hid (∀ i, i < 60 → ((flat key).drop (i * 4)).take 4 = lat (wk key 60) i) := fun i hi => lat_flat key hk i hi
  have zz := zero30
  have bb := build30
  obtain ⟨Z, hZ⟩ : ∃ Z, Z = ncells (zeros 240) := ⟨_, rfl⟩
  rw [← hZ] at zz bb WN EQ
  have ZR : Hid (Z.size = (ncells (flat key)).size) := by show _ = _; rw [hZ]; exact z30 FB.out.1
  generalize flat key = F at *
  have G0 := Lib.hid (heap_alloc_new w (.cells (ncells key) 23))
  have HB : Hid (Below w.heap.size w (w.alloc (.cells (ncells key) 23))) := (Below.refl _ _).alloc (Nat.le_refl _) _
  clear hk hZ
  go_enter Try.func3, Try.ntmps3
  go_wp2_with (first
    | (refine wpList_load_row rfl 23 (.tmp 1) rfl w.heap.size rfl 23 (ncells key) (0, 0) _ G0.out Try.underlying23 rfl (i23 KL.out) ?_))
  refine (NW.out _).mono ?_
  rintro e w1 ⟨g, rfl, hge, hci, hb⟩
  have C1 := Lib.hid hci
  have B1 := Lib.hid (HB.out.trans (hb.mono HB.out.size))
  have G01 := Lib.hid ((hb.block _ (blk_lt G0.out)).trans G0.out)
  clear hci hb hge G0 HB
  go_wp2_with fail
  refine (RN.out _ _ G01.out).mono ?_
  rintro e w2 ⟨gx, rfl, hrc, hb⟩
  have RX := Lib.hid hrc
  have C2 := Lib.hid (C1.out.below hb)
  have B2 := Lib.hid (B1.out.trans (hb.mono B1.out.size))
  clear hrc hb C1 G01 B1 RN NW
  go_wp2_with fail
  refine (WC.out _ _ C2.out).mono ?_
  rintro e w3 ⟨rfl, hb⟩
  have RX3 := Lib.hid (RX.out.below hb)
  have B3 := Lib.hid (B2.out.trans (hb.mono B2.out.size))
  clear hb RX C2 B2 WC
  have G4 := Lib.hid (heap_alloc_new w3 (.cells Z 30))
  obtain ⟨g5, hg5⟩ : ∃ g, g = w3.heap.size := ⟨_, rfl⟩
  obtain ⟨w4, hw4⟩ : ∃ w4, w4 = (w3.alloc (.cells Z 30)).setRow w3.heap.size (ncells F) := ⟨_, rfl⟩
  have R5 : Hid (w4.heap[g5]? = some (.cells (ncells F) 30 (0, 0))) := by show _ = _; rw [hw4, hg5]; exact setRow_heap _ _ _ _ _ _ G4.out
  have b4 : Below w3.heap.size w3 w4 := by rw [hw4]; exact ((Below.refl _ _).alloc (Nat.le_refl _) _).trans (below_row _ _ (Nat.le_refl _))
  have RX4 := Lib.hid (RX3.out.below b4)
  have B4 := Lib.hid (B3.out.trans (b4.mono B3.out.size))
  have HG5 := Lib.hid hg5
  have HW4 := Lib.hid hw4
  clear b4 hg5 hw4 RX3 B3
  go_wp2_with (first
    | (refine wpList_store_row rfl 30 (.tmp 5) (.tmp 15) rfl w3.heap.size (ncells F) rfl rfl 30 Z G4.out (i30 FB.out.1) ZR.out (none_ F) ?_))
  rw [← HW4.out, ← HG5.out]
  clear G4 HG5 HW4 ZR
  go_loopw [6] (fun vi wr => ∃ i : Nat, i ≤ 60 ∧ vi = .int .i64 i ∧ wr.heap[g5]? = some (.cells (ncells F) 30 (0, 0)) ∧ RC wr gx key ∧ Below w.heap.size w wr) (fun vi _ => 60 - (intOf vi).toNat)
  case atStart => exact ⟨0, by omega, rfl, R5.out, RX4.out, B4.out⟩
  case round =>
    clear R5 RX4 B4
    obtain ⟨i, hi, rfl, h5, hrc, hbl⟩ := hrel
    by_cases hlt : i < 60
    · have hi60 : (i : Int) < 60 := by omega
      have HRC := Lib.hid hrc
      obtain ⟨bw, cw, y, cy, z, cz, hg, hL, _, _⟩ := hrc
      obtain ⟨x, c', hx, hs⟩ := hL i hlt
      have S1 : Hid (∀ m, Sees (wr.drewN m) (.slice x 4 c') (lat (wk key 60) i)) := fun m => hs.below ⟨rfl, rfl, rfl, Nat.le_refl _, fun _ _ => rfl⟩
      have S2 : Hid (∀ m, Sees (wr.drewN m) (.slice (some ⟨g5, i * 4, none⟩) 4 4) (lat (wk key 60) i)) := fun m => by
        have := sees_part (w := wr.drewN m) (b := g5) (o := 0) FB.out.2 (fun k hk => by rw [Nat.zero_add]; exact cell_at h5 FB.out.1 (by rw [FB.out.1] at hk; exact hk)) (i * 4) 4 (by rw [FB.out.1]; omega) (by omega) 4 (Nat.le_refl _) (by simp [maxLen])
        rw [Nat.zero_add, LF.out i hlt] at this
        exact this
      have c1 : ∀ m, (wr.drewN m).cell? ⟨gx, 0, none⟩ = some (.slice (some ⟨bw, 0, none⟩) 60 cw) := fun m => cell_of_row _ _ 0 _ _ _ hg
      have c2 : ∀ m, (wr.drewN m).cell? ⟨bw, i, none⟩ = some (.slice x 4 c') := fun m => hx
      have s1 : ∀ m, (convert 28 9 (.slice x 4 c')).run Try.prog (wr.drewN m) = .ok (.string (strN (lat (wk key 60) i))) (wr.drewN m) := fun m => (S1.out m).str
      have s2 : ∀ m, (convert 28 9 (.slice (some ⟨g5, i * 4, none⟩) 4 4)).run Try.prog (wr.drewN m) = .ok (.string (strN (lat (wk key 60) i))) (wr.drewN m) := fun m => (S2.out m).str
      have c1' : wr.cell? ⟨gx, 0, none⟩ = some (.slice (some ⟨bw, 0, none⟩) 60 cw) := c1 0
      have c2' : wr.cell? ⟨bw, i, none⟩ = some (.slice x 4 c') := c2 0
      have sl := arr4_all
      have SQ : Hid (∀ m, (wr.drewN m).heap[g5]? = some (.cells (ncells F) 30 (0, 0)) ∧ RC (wr.drewN m) gx key ∧ Below w.heap.size w (wr.drewN m)) := fun m => ⟨h5, HRC.out.below ⟨rfl, rfl, rfl, Nat.le_refl _, fun _ _ => rfl⟩, hbl.trans ⟨rfl, rfl, rfl, Nat.le_refl _, fun _ _ => rfl⟩⟩
      generalize strN (lat (wk key 60) i) = st at *
      clear hg hL hx hs h5 hbl S1 S2 HRC
      go_wp2_with fail
      go_quiet (fail)
      go_wp2_with fail
      go_roundw
      case rel => exact ⟨i + 1, by omega, by go_num, (SQ.out _).1, (SQ.out _).2.1, (SQ.out _).2.2⟩
      case measure => simp [intOf]; omega
    · have HBL := Lib.hid hbl
      have hnl : ¬ (i : Int) < 60 := by omega
      have eq := EQ.out
      clear hrc h5 hbl
      go_wp2_with fail
      refine (alive5 _).mono ?_
      rintro e w5 ⟨rfl, hb⟩
      have B5 := Lib.hid (HBL.out.trans (hb.mono HBL.out.size))
      clear hb HBL
      go_wp2_with fail
      refine (WN.out _).mono ?_
      rintro e w6 ⟨rfl, hb⟩
      have B6 := Lib.hid (B5.out.trans (hb.mono B5.out.size))
      clear hb B5
      go_wp2_with fail
      go_ret
      exact ⟨rfl, B6.out⟩

set_option maxRecDepth 100000 in
theorem lifted (os : Os) (started : os.Started) (H : Type) (enc : TypeId × Value → H) :
    ReturnsInHanded {} Try.checked os 3 .any (Rows.aesWordsSpec.pre6 enc Try.prog Try.f3 Rows.aesWordsRow.domain false) (Rows.aesWordsSpec.post enc Try.prog Try.f3 false true false false) := by
  refine returnsInHanded_of_change (C := Try.checked) own started (by kernel_rfl) Try.func3
    (ChangeSpec.witness6 (enc := enc) (C := Try.checked) false ⟨#[], #[.agg (Array.replicate 32 (.int .u8 0))], []⟩ 8 (by kernel_rfl) (by kernel_rfl) (by kernel_rfl) (by kernel_rfl)) ?_
  intro W base args ds gs before hval0 hW hcnd _
  have hval : ∀ (j : Nat) t v, Try.f3.params[j]? = some t → args[j]? = some v → Value.okWide Try.prog W .any base t v := hval0
  have hW' := hW
  obtain ⟨p, q, hA0, hV, rfl, hfz, hnd⟩ := hW
  have hA : DataW.TrodAll enc Try.prog W 0 (fun _ => true) true Try.f3.params.toList args.toList ds p := hA0
  rw [Try.params3] at hA hval
  obtain ⟨v0, vs0, d0, ds0, p0, q0, hargs, rfl, rfl, h0, r0⟩ := trodAll_cons hA
  obtain ⟨rfl, rfl, rfl⟩ := trodAll_nil r0
  obtain rfl : args = #[v0] := by cases args; simp_all
  obtain ⟨rfl, rfl⟩ := trodVars_none hV
  obtain ⟨x0, b0, rfl⟩ := open_arr u23 cellsOf23 (hval 0 23 v0 rfl rfl) h0
  refine (walk x0 b0 W).mono fun e W' ⟨he, hb⟩ => ?_
  subst he
  exact ⟨_, rfl, law_post hW' rfl rfl rfl (by kernel_rfl) hb⟩

/-- The statement. -/
theorem proved : Rows.AesWordsSaid :=
  OpenClaim.holds_of_wide 3 Try.f3 rfl rfl rfl rfl rfl rfl rfl ⟨rfl, rfl, rfl, rfl, rfl⟩ rfl rfl rfl rfl rfl (by kernel_rfl) Try.func3 (by kernel_rfl)
    (of_decide_eq_true (by kernel_rfl)) (by unfold Func.isWrapper; first | (rw [if_pos (by decide +kernel)]; kernel_rfl) | (rw [if_neg (by decide +kernel)]; exact ⟨rfl, rfl⟩))
    (fun os started H enc _ => lifted os started H enc)
#print axioms proved
end Go.Proofs.Ytekffhopmicalaa.aesWords
