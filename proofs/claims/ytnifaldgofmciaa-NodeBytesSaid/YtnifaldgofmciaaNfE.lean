/-
  Contract of the document's Write of a node. Condition: the node reads as one, of no more than a hundred parts.
-/
import Derived.Test.YtnifaldgofmciaaNfD
namespace Go.Proofs.Ytnifaldgofmciaa
open Go.RowKit
open oc (Byt Sees Own be nth)
def frD (x : DN) : List Int := [if x.leaf then 1 else 2, (x.l.length : Int), 0, 0, 0, 0, 0, 0]
def bdD (l : List (Int × List Int)) : List Int := l.flatMap fun p => be 8 p.1 ++ p.2
/-- The bytes of a document's node. -/
def wrD (x : DN) : List Int := (frD x ++ bdD x.l) ++ List.replicate (512 - (frD x ++ bdD x.l).length) 0
def WrP (w : World) (x : DN) (e : Ending) (w' : World) : Prop := ∃ v, e = .returned (.tuple #[v, .int .i64 (if rightD x = true then 0 else 3)]) ∧ Sees w' v (if rightD x = true then wrD x else []) ∧ Below w.heap.size w w'
def lenV : Value → Nat
  | .slice _ n _ => n
  | _ => 0
theorem bdD_step {l : List (Int × List Int)} {i : Nat} (hi : i < l.length) : bdD (l.take (i + 1)) = bdD (l.take i) ++ be 8 (keyD l i) ++ bytD l i := by
  unfold bdD keyD bytD
  rw [List.take_succ_eq_append_getElem hi, List.flatMap_append]
  simp [List.getD, hi]
theorem bdD_len {l : List (Int × List Int)} {s : Nat} (h : ∀ i, i < l.length → (bytD l i).length = s) : ∀ i, i ≤ l.length → (bdD (l.take i)).length = i * (8 + s)
  | 0, _ => by simp [bdD]
  | i + 1, hi => by
    rw [bdD_step (by omega), List.length_append, List.length_append, bdD_len h i (by omega), oc.be_len, h i (by omega), Nat.add_mul]
    omega
theorem rightD_parts {x : DN} (h : rightD x = true) : (∀ i, i < x.l.length → (bytD x.l i).length = szB x.leaf) ∧ (∀ i, i + 1 < x.l.length → keyD x.l i < keyD x.l (i + 1)) ∧ x.l.length ≤ 11 ∧ x.l.length * (8 + szB x.leaf) ≤ 500 := by
  unfold rightD at h
  simp only [Bool.and_eq_true, decide_eq_true_eq, List.all_eq_true, List.mem_range] at h
  obtain ⟨h1, h2, h3⟩ := h
  refine ⟨fun i hi => ?_, fun i hi => ?_, ?_, ?_⟩
  · have := h1 i hi
    unfold gdD at this
    simp only [Bool.and_eq_true, decide_eq_true_eq] at this
    exact this.2
  · have := h1 (i + 1) hi
    unfold gdD at this
    simp only [Bool.and_eq_true, Bool.or_eq_true, decide_eq_true_eq, Nat.add_sub_cancel] at this
    rcases this.1 with e | e
    · omega
    · exact e
  · cases hl : x.leaf <;> simp [hl] at h3 <;> omega
  · cases hl : x.leaf <;> simp [hl, szB] at h3 ⊢ <;> omega
theorem frD_len (x : DN) : (frD x).length = 8 := rfl
theorem frD_byt {x : DN} (h : x.l.length ≤ 11) : Byt (frD x) := by
  intro y hy
  unfold frD at hy
  cases hl : x.leaf <;> simp [hl] at hy <;> omega
theorem own_bytes {w : World} {base g : Nat} {xs : List Int} (hg : w.heap[g]? = some (.cells (oc.bcells xs) 5 (0, 0))) (hb : Byt xs) (hm : xs.length ≤ 1000) (hs : base ≤ g) : Own w base (.slice (some ⟨g, 0, none⟩) xs.length xs.length) xs :=
  ⟨hb, by simp, .inr ⟨g, xs.length, oc.bcells xs, rfl, hs, hg, Nat.le_refl _, by unfold maxLen; omega, by simp [oc.bcells], by simp [oc.bcells, List.take_of_length_le]⟩⟩
theorem own_len {w : World} {base : Nat} {x : Option Addr} {n c : Nat} {xs : List Int} (h : Own w base (.slice x n c) xs) : n = xs.length := by
  obtain ⟨y, d, e⟩ := own_slice h
  injection e
set_option maxRecDepth 100000 in
set_option maxHeartbeats 8000000 in
theorem writeD_no (O : Array Value) (x : DN) (w : World) (hv : DM w (.agg O) x) (hm : x.l.length ≤ 100) (hr : rightD x = false) : Calls Try.prog 13 #[.agg O] w (WrP w x) := by
  have RC : Hid (∀ W, DM W (.agg O) x → Calls Try.prog 11 #[.agg O] W fun e w' => e = .returned (.bool false) ∧ Below W.heap.size W w') := fun W h => by have := rightDC O x W h hm; rw [hr] at this; exact this
  have IO : Hid ((Try.prog.info? 32).map (·.size) = some O.size) := by obtain ⟨V, e, _⟩ := hv; injection e with e; show _ = _; rw [e]; exact i32 _ _
  obtain ⟨W1, hW1⟩ : ∃ W1, W1 = w.alloc (.cells O 32) := ⟨_, rfl⟩
  have b1 : Below w.heap.size w W1 := by rw [hW1]; exact (Below.refl _ _).alloc (Nat.le_refl _) _
  have G1 : Hid (W1.heap[w.heap.size]? = some (.cells O 32 (0, 0))) := by show _ = _; rw [hW1]; exact heap_alloc_new w _
  have DX := Lib.hid (hv.below b1)
  have B1 := Lib.hid b1
  have HW1 := Lib.hid hW1
  have HR := Lib.hid hr
  clear hW1 b1 hv hr
  go_enter Try.func13, Try.ntmps13
  go_upto_region 1 with (fail)
  rw [← HW1.out]
  go_wp2_with (refine wpList_load_row rfl 32 (.tmp 1) rfl w.heap.size rfl 32 O (0, 0) _ G1.out Try.underlying32 rfl IO.out ?_)
  refine (RC.out _ DX.out).mono ?_
  rintro e w2 ⟨rfl, hb⟩
  have B2 := Lib.hid (B1.out.trans (hb.mono B1.out.size))
  clear hb
  go_wp2_with fail
  go_ret2
  exact ⟨.slice none 0 0, by rw [HR.out]; rfl, by rw [HR.out]; exact oc.sees_nil _, B2.out⟩
set_option maxRecDepth 100000 in
set_option maxHeartbeats 16000000 in
theorem writeD_true (O : Array Value) (x : DN) (w : World) (hv : DM w (.agg O) x) (hlf : x.leaf = true) (hr : rightD x = true) : Calls Try.prog 13 #[.agg O] w (WrP w x) := by
  obtain ⟨hp1, _, hp3, hp4⟩ := rightD_parts hr
  have RC : Hid (∀ W, DM W (.agg O) x → Calls Try.prog 11 #[.agg O] W fun e w' => e = .returned (.bool true) ∧ Below W.heap.size W w') := fun W h => by have := rightDC O x W h (by omega); rw [hr] at this; exact this
  have IO : Hid ((Try.prog.info? 32).map (·.size) = some O.size) := by obtain ⟨V, e, _⟩ := hv; injection e with e; show _ = _; rw [e]; exact i32 _ _
  have DX0 := Lib.hid hv
  obtain ⟨V, e, hps⟩ := hv
  injection e with e
  obtain ⟨xa, ca, rfl, _, _⟩ := hps.form
  have O0 : Hid (O[0]? = some (.bool true)) := by show _ = _; rw [e, hlf]; rfl
  have O1 : Hid (O[1]? = some (.slice xa x.l.length ca)) := by show _ = _; rw [e]; rfl
  obtain ⟨W1, hW1⟩ : ∃ W1, W1 = w.alloc (.cells O 32) := ⟨_, rfl⟩
  have b1 : Below w.heap.size w W1 := by rw [hW1]; exact (Below.refl _ _).alloc (Nat.le_refl _) _
  have G1 : Hid (W1.heap[w.heap.size]? = some (.cells O 32 (0, 0))) := by show _ = _; rw [hW1]; exact heap_alloc_new w _
  have DX := Lib.hid (DX0.out.below b1)
  have PP := Lib.hid hps
  have B1 := Lib.hid b1
  have HW1 := Lib.hid hW1
  have FR : Hid (frD x = [1, (x.l.length : Int), 0, 0, 0, 0, 0, 0]) := by show _ = _; unfold frD; rw [hlf]; rfl
  have FB := Lib.hid (frD_byt hp3)
  have STEP := Lib.hid (fun i (h : i < x.l.length) => bdD_step h)
  have CL : Hid (∀ i, i ≤ x.l.length → (frD x ++ bdD (x.l.take i)).length = 8 + i * 52) := fun i hi => by rw [List.length_append, frD_len, bdD_len hp1 i hi, hlf]; rfl
  have BL : Hid (∀ i, i < x.l.length → (bytD x.l i).length = 44) := fun i hi => by rw [hp1 i hi, hlf]; rfl
  have FULL : Hid (x.l.take x.l.length = x.l) := List.take_length
  have WD : Hid (wrD x = (frD x ++ bdD x.l) ++ List.replicate (512 - (frD x ++ bdD x.l).length) 0) := rfl
  have L500 : Hid (x.l.length * 52 ≤ 500) := by rw [hlf] at hp4; exact hp4
  have HR := Lib.hid hr
  have hL : (x.l.length : Int) ≤ 11 := by omega
  clear hW1 b1 hr e hps hlf hp1 hp4
  obtain ⟨L, hLL⟩ : ∃ L, L = x.l.length := ⟨_, rfl⟩
  rw [← hLL] at O1 FR CL BL FULL L500 hL hp3 STEP
  have HLL := Lib.hid hLL
  clear hLL
  have hw8 : IntKind.u8.wrap (L : Int) = (L : Int) := oc.u8nat L (by omega)
  go_enter Try.func13, Try.ntmps13
  go_upto_region 1 with (fail)
  rw [← HW1.out]
  go_wp2_with (refine wpList_load_row rfl 32 (.tmp 1) rfl w.heap.size rfl 32 O (0, 0) _ G1.out Try.underlying32 rfl IO.out ?_)
  refine (RC.out _ DX.out).mono ?_
  rintro e w2 ⟨rfl, hb⟩
  have B12 := Lib.hid hb
  have G2 := Lib.hid ((hb.block _ (blk_lt G1.out)).trans G1.out)
  clear hb RC DX
  have cc0 := (cell_row G2.out 0).trans O0.out
  have cc1 := (cell_row G2.out 1).trans O1.out
  go_upto_region 4 with (fail)
  clear cc0 cc1
  have al : Below w2.heap.size w2 (w2.alloc (.cells #[.int .u8 2, .int .u8 (L : Int), .int .u8 0, .int .u8 0, .int .u8 0, .int .u8 0, .int .u8 0, .int .u8 0] 5)) := (Below.refl _ _).alloc (Nat.le_refl _) _
  have cc0 := (cell_row ((al.block _ (blk_lt G2.out)).trans G2.out) 0).trans O0.out
  clear al
  go_upto_region 6 with (fail)
  clear cc0
  obtain ⟨W3, hW3⟩ : ∃ W3, W3 = w2.alloc (.cells #[.int .u8 1, .int .u8 (L : Int), .int .u8 0, .int .u8 0, .int .u8 0, .int .u8 0, .int .u8 0, .int .u8 0] 5) := ⟨_, rfl⟩
  have al : Below w2.heap.size w2 W3 := by rw [hW3]; exact (Below.refl _ _).alloc (Nat.le_refl _) _
  have gW3 : W3.heap[w2.heap.size]? = some (.cells (oc.bcells (frD x)) 5 (0, 0)) := by rw [hW3, FR.out]; exact heap_alloc_new w2 _
  have lt2 := blk_lt G2.out
  have OWN0 := Lib.hid (own_bytes gW3 FB.out (by rw [frD_len]; decide) (show w.heap.size + 1 ≤ w2.heap.size from lt2))
  have BX : Hid (Below (w.heap.size + 1) W1 W3) := (B12.out.mono (blk_lt G1.out)).trans (al.mono lt2)
  rw [← hW3]
  have G3 := Lib.hid ((al.block _ (blk_lt G2.out)).trans G2.out)
  generalize hq : w2.heap.size = gq at OWN0 ⊢
  clear hW3 al gW3 lt2 hq
  rw [frD_len] at OWN0
  go_wp2_with fail
  refine (show Code.wp _ _ _ _ _ from ?_)
  go_loopw [4, 5] (fun v4 v5 wr => ∃ i : Nat, i ≤ L ∧ v5 = .int .i64 (i : Int) ∧ (∃ y d, v4 = .slice y (8 + i * 52) d) ∧ Own wr (w.heap.size + 1) v4 (frD x ++ bdD (x.l.take i)) ∧ Below (w.heap.size + 1) W1 wr) (fun _ v5 _ => L - (intOf v5).toNat)
  case atStart => exact ⟨0, by omega, rfl, ⟨_, _, rfl⟩, by simpa [bdD] using OWN0.out, BX.out⟩
  case round =>
    obtain ⟨i, hi, rfl, ⟨y, d, rfl⟩, hown, hb⟩ := hrel
    have OW := Lib.hid hown
    have HB := Lib.hid hb
    have GR := Lib.hid ((hb.block _ (Nat.lt_succ_self _)).trans G1.out)
    have cc1 := (cell_row GR.out 1).trans O1.out
    clear hown hb
    by_cases hlt : i < L
    · have hii : (i : Int) < (L : Int) := by omega
      have HLT := Lib.hid hlt
      have BW : Hid (Below w.heap.size w wr) := B1.out.trans (HB.out.mono (Nat.le_succ _))
      obtain ⟨b, o, u, rfl, ck, cu, su, kb, _⟩ := PP.out.at i (by rw [← HLL.out]; exact hlt)
      have CK := Lib.hid (ck.below BW.out)
      have CU := Lib.hid cu
      have SU := Lib.hid su
      have BLI := Lib.hid (BL.out i hlt)
      have CLI := Lib.hid (CL.out i hi)
      have STI := Lib.hid (STEP.out i hlt)
      have KB0 := kb.1
      have KB1 := kb.2
      have hst : 8 + i * 52 ≤ 600 := by have := L500.out; have : i * 52 ≤ L * 52 := Nat.mul_le_mul_right _ hi; omega
      generalize keyD x.l i = key at CK STI KB0 KB1
      generalize bytD x.l i = B at SU BLI STI
      clear hlt ck cu su kb
      go_upto_region 9 with (fail)
      have ck2 := CK.out.2
      go_wp2_with fail
      clear cc1 ck2
      refine (oc.refBytes key 8 (by decide) KB0 KB1 wr).mono ?_
      rintro e w4 ⟨yb, db, rfl, hob, hb⟩
      rw [oc.be_len] at hob ⊢
      have OW4 := OW.out.below hb
      obtain ⟨y1, d1, w5, hr1, ho1, hg1, hb1⟩ := oc.app OW4 hob.sees (by rw [CLI.out, oc.be_len]; omega) (by have := HB.out.size; have := blk_lt G1.out; have := hb.size; omega)
      rw [CLI.out, oc.be_len] at hr1 ho1
      have B5 : Below (w.heap.size + 1) wr w5 := (hb.mono (by have := HB.out.size; have := blk_lt G1.out; omega)).trans hb1
      have BW5 : Below w.heap.size w w5 := BW.out.trans (B5.mono (Nat.le_succ _))
      obtain ⟨y2, d2, w6, hr2, ho2, hg2, hb2⟩ := oc.app ho1 (SU.out.below BW5) (by rw [List.length_append, CLI.out, oc.be_len, BLI.out]; omega) (by have := HB.out.size; have := blk_lt G1.out; have := B5.size; omega)
      rw [List.length_append, CLI.out, oc.be_len, BLI.out, show 8 + i * 52 + 8 + 44 = 8 + (i + 1) * 52 by omega] at hr2 ho2
      have HR1 := Lib.hid hr1
      have HR2 := Lib.hid hr2
      have HO2 : Hid (Own w6 (w.heap.size + 1) (.slice y2 (8 + (i + 1) * 52) d2) (frD x ++ bdD (x.l.take (i + 1)))) := by show Own _ _ _ _; rw [STI.out]; simpa only [List.append_assoc] using ho2
      have B6 := Lib.hid (HB.out.trans (B5.trans hb2))
      have cc5 := (cell_row ((B5.block _ (Nat.lt_succ_self _)).trans GR.out) 1).trans O1.out
      have cu5 := (CU.out.below BW5).2
      clear hr1 ho1 hg1 hb1 hr2 ho2 hg2 hb2 OW4 hob hb B5 BW5
      go_upto_region 10 with (at_builtin; refine oc.wpList_app rfl _ _ rfl rfl rfl rfl HR1.out ?_)
      go_wp2_with (at_builtin; refine oc.wpList_app rfl _ _ rfl rfl rfl rfl HR2.out ?_)
      go_roundw
      case rel => exact ⟨i + 1, by have := HLT.out; omega, by go_num, ⟨_, _, rfl⟩, HO2.out, B6.out⟩
      case measure => simp [intOf]; have := HLT.out; omega
    · have hge : ¬ (i : Int) < (L : Int) := by omega
      obtain rfl : i = L := by omega
      have OWL : Hid (Own wr (w.heap.size + 1) (.slice y (8 + i * 52) d) (frD x ++ bdD x.l)) := by have := OW.out; rw [FULL.out] at this; exact this
      have CLL : Hid ((frD x ++ bdD x.l).length = 8 + i * 52) := by have := CL.out i (Nat.le_refl _); rw [FULL.out] at this; exact this
      have W500 := L500.out
      go_wp2_with fail
      clear cc1
      have hn5 : 8 + i * 52 ≤ 512 := by omega
      generalize 8 + i * 52 = n0 at OWL CLL hn5 ⊢
      generalize frD x ++ bdD x.l = cur at OWL CLL WD
      clear W500
      refine (show Code.wp _ _ _ _ _ from ?_)
      go_loopw [4] (fun v4 wq => ∃ (n : Nat) (y : Option Addr) (d : Nat), v4 = .slice y n d ∧ n0 ≤ n ∧ n ≤ 512 ∧ Own wq (w.heap.size + 1) (.slice y n d) (cur ++ List.replicate (n - n0) 0) ∧ Below (w.heap.size + 1) W1 wq) (fun v4 _ => 512 - lenV v4)
      case atStart => exact ⟨n0, y, d, rfl, Nat.le_refl _, hn5, by simpa using OWL.out, HB.out⟩
      case round =>
        obtain ⟨n, y3, d3, rfl, hn1, hn2, hown, hb⟩ := hrel
        have hlen : n = (cur ++ List.replicate (n - n0) (0 : Int)).length := own_len hown
        by_cases hlt : n < 512
        · have hii : (n : Int) < 512 := by omega
          have HS := oc.sees_new wr #[.int .u8 0] [0] rfl (fun z hz => by simp at hz; omega) (by simp [maxLen]) _ rfl 1 rfl
          have al : Below wr.heap.size wr (wr.alloc (.cells #[.int .u8 0] 5)) := (Below.refl _ _).alloc (Nat.le_refl _) _
          obtain ⟨y4, d4, w6, hr, ho, hg, hb2⟩ := oc.app (hown.below al) HS (by rw [← hlen]; simp; omega) (by have := hb.size; have := blk_lt G1.out; simp; omega)
          rw [← hlen] at hr ho
          have HR := Lib.hid hr
          have HO : Hid (Own w6 (w.heap.size + 1) (.slice y4 (n + 1) d4) (cur ++ List.replicate (n + 1 - n0) 0)) := by
            show Own _ _ _ _
            rw [show n + 1 - n0 = (n - n0) + 1 by omega, List.replicate_succ', ← List.append_assoc]
            exact ho
          have HB6 := Lib.hid ((hb.trans (al.mono (by have := hb.size; have := blk_lt G1.out; omega))).trans hb2)
          clear hr ho hg hb2 HS al hown hb hlen
          go_wp2_with (at_builtin; refine oc.wpList_app rfl _ _ rfl rfl rfl rfl HR.out ?_)
          go_roundw
          case rel => exact ⟨n + 1, y4, d4, rfl, by omega, by omega, HO.out, HB6.out⟩
          case measure => show 512 - (n + 1) < 512 - n; omega
        · have hge2 : ¬ (n : Int) < 512 := by omega
          obtain rfl : n = 512 := by omega
          have RES : Hid (Sees wr (.slice y3 512 d3) (wrD x)) := by show Sees _ _ _; rw [WD.out, CLL.out]; exact hown.sees
          have FBW := Lib.hid (B1.out.trans (hb.mono (Nat.le_succ _)))
          clear hown hb hlen
          go_wp2_with fail
          go_ret2
          exact ⟨_, by rw [HR.out]; rfl, by rw [HR.out]; exact RES.out, FBW.out⟩
set_option maxRecDepth 100000 in
set_option maxHeartbeats 16000000 in
theorem writeD_false (O : Array Value) (x : DN) (w : World) (hv : DM w (.agg O) x) (hlf : x.leaf = false) (hr : rightD x = true) : Calls Try.prog 13 #[.agg O] w (WrP w x) := by
  obtain ⟨hp1, _, hp3, hp4⟩ := rightD_parts hr
  have RC : Hid (∀ W, DM W (.agg O) x → Calls Try.prog 11 #[.agg O] W fun e w' => e = .returned (.bool true) ∧ Below W.heap.size W w') := fun W h => by have := rightDC O x W h (by omega); rw [hr] at this; exact this
  have IO : Hid ((Try.prog.info? 32).map (·.size) = some O.size) := by obtain ⟨V, e, _⟩ := hv; injection e with e; show _ = _; rw [e]; exact i32 _ _
  have DX0 := Lib.hid hv
  obtain ⟨V, e, hps⟩ := hv
  injection e with e
  obtain ⟨xa, ca, rfl, _, _⟩ := hps.form
  have O0 : Hid (O[0]? = some (.bool false)) := by show _ = _; rw [e, hlf]; rfl
  have O1 : Hid (O[1]? = some (.slice xa x.l.length ca)) := by show _ = _; rw [e]; rfl
  obtain ⟨W1, hW1⟩ : ∃ W1, W1 = w.alloc (.cells O 32) := ⟨_, rfl⟩
  have b1 : Below w.heap.size w W1 := by rw [hW1]; exact (Below.refl _ _).alloc (Nat.le_refl _) _
  have G1 : Hid (W1.heap[w.heap.size]? = some (.cells O 32 (0, 0))) := by show _ = _; rw [hW1]; exact heap_alloc_new w _
  have DX := Lib.hid (DX0.out.below b1)
  have PP := Lib.hid hps
  have B1 := Lib.hid b1
  have HW1 := Lib.hid hW1
  have FR : Hid (frD x = [2, (x.l.length : Int), 0, 0, 0, 0, 0, 0]) := by show _ = _; unfold frD; rw [hlf]; rfl
  have FB := Lib.hid (frD_byt hp3)
  have STEP := Lib.hid (fun i (h : i < x.l.length) => bdD_step h)
  have CL : Hid (∀ i, i ≤ x.l.length → (frD x ++ bdD (x.l.take i)).length = 8 + i * 44) := fun i hi => by rw [List.length_append, frD_len, bdD_len hp1 i hi, hlf]; rfl
  have BL : Hid (∀ i, i < x.l.length → (bytD x.l i).length = 36) := fun i hi => by rw [hp1 i hi, hlf]; rfl
  have FULL : Hid (x.l.take x.l.length = x.l) := List.take_length
  have WD : Hid (wrD x = (frD x ++ bdD x.l) ++ List.replicate (512 - (frD x ++ bdD x.l).length) 0) := rfl
  have L500 : Hid (x.l.length * 44 ≤ 500) := by rw [hlf] at hp4; exact hp4
  have HR := Lib.hid hr
  have hL : (x.l.length : Int) ≤ 11 := by omega
  clear hW1 b1 hr e hps hlf hp1 hp4
  obtain ⟨L, hLL⟩ : ∃ L, L = x.l.length := ⟨_, rfl⟩
  rw [← hLL] at O1 FR CL BL FULL L500 hL hp3 STEP
  have HLL := Lib.hid hLL
  clear hLL
  have hw8 : IntKind.u8.wrap (L : Int) = (L : Int) := oc.u8nat L (by omega)
  go_enter Try.func13, Try.ntmps13
  go_upto_region 1 with (fail)
  rw [← HW1.out]
  go_wp2_with (refine wpList_load_row rfl 32 (.tmp 1) rfl w.heap.size rfl 32 O (0, 0) _ G1.out Try.underlying32 rfl IO.out ?_)
  refine (RC.out _ DX.out).mono ?_
  rintro e w2 ⟨rfl, hb⟩
  have B12 := Lib.hid hb
  have G2 := Lib.hid ((hb.block _ (blk_lt G1.out)).trans G1.out)
  clear hb RC DX
  have cc0 := (cell_row G2.out 0).trans O0.out
  have cc1 := (cell_row G2.out 1).trans O1.out
  go_upto_region 4 with (fail)
  clear cc0 cc1
  have al : Below w2.heap.size w2 (w2.alloc (.cells #[.int .u8 2, .int .u8 (L : Int), .int .u8 0, .int .u8 0, .int .u8 0, .int .u8 0, .int .u8 0, .int .u8 0] 5)) := (Below.refl _ _).alloc (Nat.le_refl _) _
  have cc0 := (cell_row ((al.block _ (blk_lt G2.out)).trans G2.out) 0).trans O0.out
  clear al
  go_upto_region 6 with (fail)
  clear cc0
  obtain ⟨W3, hW3⟩ : ∃ W3, W3 = w2.alloc (.cells #[.int .u8 2, .int .u8 (L : Int), .int .u8 0, .int .u8 0, .int .u8 0, .int .u8 0, .int .u8 0, .int .u8 0] 5) := ⟨_, rfl⟩
  have al : Below w2.heap.size w2 W3 := by rw [hW3]; exact (Below.refl _ _).alloc (Nat.le_refl _) _
  have gW3 : W3.heap[w2.heap.size]? = some (.cells (oc.bcells (frD x)) 5 (0, 0)) := by rw [hW3, FR.out]; exact heap_alloc_new w2 _
  have lt2 := blk_lt G2.out
  have OWN0 := Lib.hid (own_bytes gW3 FB.out (by rw [frD_len]; decide) (show w.heap.size + 1 ≤ w2.heap.size from lt2))
  have BX : Hid (Below (w.heap.size + 1) W1 W3) := (B12.out.mono (blk_lt G1.out)).trans (al.mono lt2)
  rw [← hW3]
  have G3 := Lib.hid ((al.block _ (blk_lt G2.out)).trans G2.out)
  generalize hq : w2.heap.size = gq at OWN0 ⊢
  clear hW3 al gW3 lt2 hq
  rw [frD_len] at OWN0
  go_wp2_with fail
  refine (show Code.wp _ _ _ _ _ from ?_)
  go_loopw [4, 5] (fun v4 v5 wr => ∃ i : Nat, i ≤ L ∧ v5 = .int .i64 (i : Int) ∧ (∃ y d, v4 = .slice y (8 + i * 44) d) ∧ Own wr (w.heap.size + 1) v4 (frD x ++ bdD (x.l.take i)) ∧ Below (w.heap.size + 1) W1 wr) (fun _ v5 _ => L - (intOf v5).toNat)
  case atStart => exact ⟨0, by omega, rfl, ⟨_, _, rfl⟩, by simpa [bdD] using OWN0.out, BX.out⟩
  case round =>
    obtain ⟨i, hi, rfl, ⟨y, d, rfl⟩, hown, hb⟩ := hrel
    have OW := Lib.hid hown
    have HB := Lib.hid hb
    have GR := Lib.hid ((hb.block _ (Nat.lt_succ_self _)).trans G1.out)
    have cc1 := (cell_row GR.out 1).trans O1.out
    clear hown hb
    by_cases hlt : i < L
    · have hii : (i : Int) < (L : Int) := by omega
      have HLT := Lib.hid hlt
      have BW : Hid (Below w.heap.size w wr) := B1.out.trans (HB.out.mono (Nat.le_succ _))
      obtain ⟨b, o, u, rfl, ck, cu, su, kb, _⟩ := PP.out.at i (by rw [← HLL.out]; exact hlt)
      have CK := Lib.hid (ck.below BW.out)
      have CU := Lib.hid cu
      have SU := Lib.hid su
      have BLI := Lib.hid (BL.out i hlt)
      have CLI := Lib.hid (CL.out i hi)
      have STI := Lib.hid (STEP.out i hlt)
      have KB0 := kb.1
      have KB1 := kb.2
      have hst : 8 + i * 44 ≤ 600 := by have := L500.out; have : i * 44 ≤ L * 44 := Nat.mul_le_mul_right _ hi; omega
      generalize keyD x.l i = key at CK STI KB0 KB1
      generalize bytD x.l i = B at SU BLI STI
      clear hlt ck cu su kb
      go_upto_region 9 with (fail)
      have ck2 := CK.out.2
      go_wp2_with fail
      clear cc1 ck2
      refine (oc.refBytes key 8 (by decide) KB0 KB1 wr).mono ?_
      rintro e w4 ⟨yb, db, rfl, hob, hb⟩
      rw [oc.be_len] at hob ⊢
      have OW4 := OW.out.below hb
      obtain ⟨y1, d1, w5, hr1, ho1, hg1, hb1⟩ := oc.app OW4 hob.sees (by rw [CLI.out, oc.be_len]; omega) (by have := HB.out.size; have := blk_lt G1.out; have := hb.size; omega)
      rw [CLI.out, oc.be_len] at hr1 ho1
      have B5 : Below (w.heap.size + 1) wr w5 := (hb.mono (by have := HB.out.size; have := blk_lt G1.out; omega)).trans hb1
      have BW5 : Below w.heap.size w w5 := BW.out.trans (B5.mono (Nat.le_succ _))
      obtain ⟨y2, d2, w6, hr2, ho2, hg2, hb2⟩ := oc.app ho1 (SU.out.below BW5) (by rw [List.length_append, CLI.out, oc.be_len, BLI.out]; omega) (by have := HB.out.size; have := blk_lt G1.out; have := B5.size; omega)
      rw [List.length_append, CLI.out, oc.be_len, BLI.out, show 8 + i * 44 + 8 + 36 = 8 + (i + 1) * 44 by omega] at hr2 ho2
      have HR1 := Lib.hid hr1
      have HR2 := Lib.hid hr2
      have HO2 : Hid (Own w6 (w.heap.size + 1) (.slice y2 (8 + (i + 1) * 44) d2) (frD x ++ bdD (x.l.take (i + 1)))) := by show Own _ _ _ _; rw [STI.out]; simpa only [List.append_assoc] using ho2
      have B6 := Lib.hid (HB.out.trans (B5.trans hb2))
      have cc5 := (cell_row ((B5.block _ (Nat.lt_succ_self _)).trans GR.out) 1).trans O1.out
      have cu5 := (CU.out.below BW5).2
      clear hr1 ho1 hg1 hb1 hr2 ho2 hg2 hb2 OW4 hob hb B5 BW5
      go_upto_region 10 with (at_builtin; refine oc.wpList_app rfl _ _ rfl rfl rfl rfl HR1.out ?_)
      go_wp2_with (at_builtin; refine oc.wpList_app rfl _ _ rfl rfl rfl rfl HR2.out ?_)
      go_roundw
      case rel => exact ⟨i + 1, by have := HLT.out; omega, by go_num, ⟨_, _, rfl⟩, HO2.out, B6.out⟩
      case measure => simp [intOf]; have := HLT.out; omega
    · have hge : ¬ (i : Int) < (L : Int) := by omega
      obtain rfl : i = L := by omega
      have OWL : Hid (Own wr (w.heap.size + 1) (.slice y (8 + i * 44) d) (frD x ++ bdD x.l)) := by have := OW.out; rw [FULL.out] at this; exact this
      have CLL : Hid ((frD x ++ bdD x.l).length = 8 + i * 44) := by have := CL.out i (Nat.le_refl _); rw [FULL.out] at this; exact this
      have W500 := L500.out
      go_wp2_with fail
      clear cc1
      have hn5 : 8 + i * 44 ≤ 512 := by omega
      generalize 8 + i * 44 = n0 at OWL CLL hn5 ⊢
      generalize frD x ++ bdD x.l = cur at OWL CLL WD
      clear W500
      refine (show Code.wp _ _ _ _ _ from ?_)
      go_loopw [4] (fun v4 wq => ∃ (n : Nat) (y : Option Addr) (d : Nat), v4 = .slice y n d ∧ n0 ≤ n ∧ n ≤ 512 ∧ Own wq (w.heap.size + 1) (.slice y n d) (cur ++ List.replicate (n - n0) 0) ∧ Below (w.heap.size + 1) W1 wq) (fun v4 _ => 512 - lenV v4)
      case atStart => exact ⟨n0, y, d, rfl, Nat.le_refl _, hn5, by simpa using OWL.out, HB.out⟩
      case round =>
        obtain ⟨n, y3, d3, rfl, hn1, hn2, hown, hb⟩ := hrel
        have hlen : n = (cur ++ List.replicate (n - n0) (0 : Int)).length := own_len hown
        by_cases hlt : n < 512
        · have hii : (n : Int) < 512 := by omega
          have HS := oc.sees_new wr #[.int .u8 0] [0] rfl (fun z hz => by simp at hz; omega) (by simp [maxLen]) _ rfl 1 rfl
          have al : Below wr.heap.size wr (wr.alloc (.cells #[.int .u8 0] 5)) := (Below.refl _ _).alloc (Nat.le_refl _) _
          obtain ⟨y4, d4, w6, hr, ho, hg, hb2⟩ := oc.app (hown.below al) HS (by rw [← hlen]; simp; omega) (by have := hb.size; have := blk_lt G1.out; simp; omega)
          rw [← hlen] at hr ho
          have HR := Lib.hid hr
          have HO : Hid (Own w6 (w.heap.size + 1) (.slice y4 (n + 1) d4) (cur ++ List.replicate (n + 1 - n0) 0)) := by
            show Own _ _ _ _
            rw [show n + 1 - n0 = (n - n0) + 1 by omega, List.replicate_succ', ← List.append_assoc]
            exact ho
          have HB6 := Lib.hid ((hb.trans (al.mono (by have := hb.size; have := blk_lt G1.out; omega))).trans hb2)
          clear hr ho hg hb2 HS al hown hb hlen
          go_wp2_with (at_builtin; refine oc.wpList_app rfl _ _ rfl rfl rfl rfl HR.out ?_)
          go_roundw
          case rel => exact ⟨n + 1, y4, d4, rfl, by omega, by omega, HO.out, HB6.out⟩
          case measure => show 512 - (n + 1) < 512 - n; omega
        · have hge2 : ¬ (n : Int) < 512 := by omega
          obtain rfl : n = 512 := by omega
          have RES : Hid (Sees wr (.slice y3 512 d3) (wrD x)) := by show Sees _ _ _; rw [WD.out, CLL.out]; exact hown.sees
          have FBW := Lib.hid (B1.out.trans (hb.mono (Nat.le_succ _)))
          clear hown hb hlen
          go_wp2_with fail
          go_ret2
          exact ⟨_, by rw [HR.out]; rfl, by rw [HR.out]; exact RES.out, FBW.out⟩
theorem writeD (O : Array Value) (x : DN) (w : World) (hv : DM w (.agg O) x) (hm : x.l.length ≤ 100) : Calls Try.prog 13 #[.agg O] w (WrP w x) := by
  cases hr : rightD x with
  | false => exact writeD_no O x w hv hm hr
  | true =>
    cases hl : x.leaf with
    | true => exact writeD_true O x w hv hl hr
    | false => exact writeD_false O x w hv hl hr
end Go.Proofs.Ytnifaldgofmciaa
