/-
  The contract of req.Decode, way m. Condition: the bytes are at most 10000.
-/
import Derived.Test.YtdohggpajhkkhaaRqL
namespace Go.Proofs.Ytdohggpajhkkhaa
open Go.RowKit

set_option maxRecDepth 100000 in
set_option maxHeartbeats 400000 in
theorem decode_m (v : Value) (xs : List Int) (hl : xs.length ≤ 10000) (w : World) (hs : Sees w v xs) (hf : (dF xs == 82) = true) (hk : kindB (dK xs) = true) (he : (endE (dA xs).2.1 (dA xs).2.2 == 0) = true) (hm : mayB (dA xs).1 = false) :
    Calls Try.prog 12 #[v] w (DecP w xs) := by
  have hok : dOk xs = false := by unfold dOk; rw [hf, hk, he, hm]; rfl
  obtain ⟨Z, hZ⟩ : ∃ Z, Z = (rc (pz 0) (.slice none 0 0)).toArray := ⟨_, rfl⟩
  have z := z26
  rw [← hZ] at z
  have hb0 := b26z
  rw [← hZ] at hb0
  have BZ := Lib.hid hb0
  have i0 := i26 (pz_ok (k := 0) (by unfold i64; omega)) (.slice none 0 0)
  rw [← hZ] at i0
  have IZ := Lib.hid i0
  have OZ : Hid (Z.all (·.oneCell') = true) := by show _ = _; rw [hZ]; exact rc_one rfl
  have FK := Lib.hid (dK_bd hs.1)
  have FF := Lib.hid (dF_bd hs.1)
  obtain ⟨w1, hw1⟩ : ∃ w1, w1 = w.alloc (.cells Z 26) := ⟨_, rfl⟩
  have B1 : Hid (Below w.heap.size w w1) := by show Below _ _ _; rw [hw1]; exact (Below.refl _ _).alloc (Nat.le_refl _) _
  have g1 : w1.heap[w.heap.size]? = some (.cells Z 26 (0, 0)) := by rw [hw1]; exact heap_alloc_new w _
  have RN : Hid (Calls Try.prog 24 #[v] w1 (rx.ReadP w1 xs)) := rx.readn v xs (by omega) w1 (hs.below B1.out)
  have RE : Hid (∀ g W, rx.RD W g (dY xs).1 (dY xs).2 → Calls Try.prog 26 #[.int .i64 (dK xs), .pointer (some ⟨g, 0, none⟩)] W (ReadQ W g (dA xs))) := fun g W h => read (dK xs) (by have := FK.out; unfold i64; omega) g _ _ (Nat.le_trans (dY_len xs) hl) W h
  have LT : Hid (∀ W : World, Calls Try.prog 20 #[.int .i64 (dK xs)] W fun e w' => e = .returned (.string (letS (dK xs))) ∧ W = w') := fun W => lettersOf _ W
  have G1 := Lib.hid g1
  have HW1 := Lib.hid hw1
  have U1 : Hid (∀ g W, rx.RD W g xs false → Calls Try.prog 25 #[.pointer (some ⟨g, 0, none⟩)] W fun e w' => e = .returned (.int .u8 (dF xs)) ∧ rx.RD w' g (dX xs).1 (dX xs).2 ∧ W.grownBy w' (some g)) := fun g W h => u8f g xs W h
  have U2 : Hid (∀ g W, rx.RD W g (dX xs).1 (dX xs).2 → Calls Try.prog 25 #[.pointer (some ⟨g, 0, none⟩)] W fun e w' => e = .returned (.int .u8 (dK xs)) ∧ rx.RD w' g (dY xs).1 (dY xs).2 ∧ W.grownBy w' (some g)) := fun g W h => u8k g xs W h
  have NO : Hid (dOk xs = false → ∀ W, Below w.heap.size w W → DecP w xs (.returned (.tuple #[.agg Z, .int .i64 70])) W) := fun h W hb => by rw [hZ]; exact zno h hb
  have YES : Hid (dOk xs = true → ∀ W dv, Below w.heap.size w W → RQ (dA xs).1 → Sees W dv (dA xs).1.d → FreshV w.heap.size dv → DecP w xs (.returned (.tuple #[.agg (rc (dA xs).1 dv).toArray, .int .i64 0])) W) := fun h W dv hb hq hs hf => zyes h hb hq hs hf
  have HE : Hid (∀ g W, rx.RD W g (dA xs).2.1 (dA xs).2.2 → Calls Try.prog 27 #[.pointer (some ⟨g, 0, none⟩)] W fun e w' => e = .returned (.int .i64 (endE (dA xs).2.1 (dA xs).2.2)) ∧ W = w') := fun g W h => endR g _ _ W h
  have HM : Hid (∀ dv W, RQ (dA xs).1 → Sees W dv (dA xs).1.d → Calls Try.prog 28 #[.agg (rc (dA xs).1 dv).toArray] W fun e w' => e = .returned (.bool (mayB (dA xs).1)) ∧ Below W.heap.size W w') := fun dv W hq h => mayCount hq dv W h
  have OK := Lib.hid (NO.out hok)
  have hy := let_yes hk
  clear hok NO YES hw1 g1 hs hl hZ hb0 i0
  generalize DecP w xs = PP at OK ⊢
  have F82 := hf
  generalize dF xs = F at U1 FF F82
  generalize dX xs = X1 at U1 U2
  generalize dY xs = X2 at U2 RE
  generalize endE (dA xs).2.1 (dA xs).2.2 = E at HE he
  generalize mayB (dA xs).1 = M at HM hm
  subst hm
  have f82 : F = 82 := beq_iff_eq.1 F82
  subst f82
  have ne82 : ((82 : Int) != 82) = false := rfl
  have NE82 := Lib.hid ne82
  clear ne82 F82 hf
  generalize letS (dK xs) = LS at LT hy
  have ls1 : (LS.toList == []) = false := by simpa using hy
  have HY := Lib.hid hy
  have LS1 := Lib.hid ls1
  clear hy ls1 hk
  have e0 : E = 0 := beq_iff_eq.1 he
  subst e0
  clear he
  generalize dK xs = kd at U2 RE FK LT
  have fk0 : 0 ≤ kd := FK.out.1
  have fk1 : kd ≤ 255 := FK.out.2
  go_enter Try.func12, Try.ntmps12
  go_upto_region 1 with (fail)
  rw [← HW1.out]
  have HZ := Lib.hid z
  clear z
  go_wp2_with fail
  refine RN.out.mono ?_
  rintro e w2 ⟨g, rfl, hrd, hb, hg⟩
  have B2 := Lib.hid (B1.out.trans (hb.mono B1.out.size))
  have hgg : w.heap.size ≤ g := Nat.le_trans B1.out.size hg
  have HG := Lib.hid hgg
  have g2 : w2.heap[w.heap.size]? = some (.cells Z 26 (0, 0)) := (hb.block _ (blk_lt G1.out)).trans G1.out
  have HGN : Hid (w.heap.size < g) := Nat.lt_of_lt_of_le (blk_lt G1.out) hg
  have R2 := Lib.hid hrd
  have G2 := Lib.hid g2
  clear hb hgg hrd g2 hg RN
  go_wp2_with fail
  refine (U1.out g _ R2.out).mono ?_
  rintro e w3 ⟨rfl, hrd, hgr⟩
  have B3 := Lib.hid (below_g B2.out HG.out hgr)
  have G3 := Lib.hid ((hgr.block _ (blk_lt G2.out) (fun e => by have := Option.some.inj e; have := HGN.out; omega)).trans G2.out)
  have R3 := Lib.hid hrd
  clear hrd hgr B2 G2 R2 U1
  go_wp2_with fail
  refine (U2.out g _ R3.out).mono ?_
  rintro e w4 ⟨rfl, hrd, hgr⟩
  have B4 := Lib.hid (below_g B3.out HG.out hgr)
  have G4 := Lib.hid ((hgr.block _ (blk_lt G3.out) (fun e => by have := Option.some.inj e; have := HGN.out; omega)).trans G3.out)
  have R4 := Lib.hid hrd
  clear hrd hgr B3 G3 R3 U2
  go_wp2_with fail
  refine (RE.out g _ R4.out).mono ?_
  rintro e w5 ⟨dv, rfl, hok, hrd, hmo, hsd, hfr⟩
  have B5 := Lib.hid (below_m B4.out HG.out hmo)
  have G5 := Lib.hid ((hmo.block _ (blk_lt G4.out) (by have := HGN.out; omega)).trans G4.out)
  have R5 := Lib.hid hrd
  have D5 := Lib.hid hsd
  have F5 : Hid (FreshV (w.heap.size + 1) dv) := hfr.mono (blk_lt G4.out)
  have FW : Hid (FreshV w.heap.size dv) := hfr.mono B4.out.size
  have Q5 := Lib.hid hok.1
  clear hrd hmo hsd hfr hok B4 G4 R4 RE
  have IC := Lib.hid (i26 Q5.out dv)
  have OC := Lib.hid (rc_one (p := (dA xs).1) D5.out.one)
  obtain ⟨C, hC⟩ : ∃ C, C = (rc (dA xs).1 dv).toArray := ⟨_, rfl⟩
  rw [← hC] at IC OC ⊢
  have HC := Lib.hid hC
  obtain ⟨w6, hw6⟩ : ∃ w6, w6 = w5.alloc (.cells C 26) := ⟨_, rfl⟩
  have RN : Hid ((w5.alloc (.cells Z 26)).setRow w5.heap.size C = w6) := by show _ = _; rw [hw6]; exact alloc_setRowT w5 Z C 26 _ rfl
  have IZC : Hid (Z.size = C.size) := Option.some.inj (IZ.out.symm.trans IC.out)
  have GZ : Hid ((w5.alloc (.cells Z 26)).heap[w5.heap.size]? = some (.cells Z 26 (0, 0))) := heap_alloc_new w5 _
  have hb6 : Below w5.heap.size w5 w6 := by rw [hw6]; exact (Below.refl _ _).alloc (Nat.le_refl _) _
  have g6 : w6.heap[w5.heap.size]? = some (.cells C 26 (0, 0)) := by rw [hw6]; exact heap_alloc_new w5 _
  have G6 := Lib.hid g6
  have B6 := Lib.hid (B5.out.trans (hb6.mono B5.out.size))
  have Y6 := Lib.hid ((hb6.block _ (blk_lt G5.out)).trans G5.out)
  have R6 := Lib.hid (R5.out.below hb6)
  have D6 := Lib.hid (D5.out.below hb6)
  have L6 : Hid (w.heap.size < w5.heap.size) := blk_lt G5.out
  clear hC hw6 hb6 g6 B5 G5 R5 D5
  go_wp2_with (refine wpList_alloc_z rfl 26 rfl (HZ.out _) ?_; refine wpList_store_row rfl 26 (.tmp 7) (.tmp 17) rfl w5.heap.size C rfl rfl 26 Z GZ.out IC.out IZC.out OC.out ?_; rw [RN.out])
  refine (LT.out _).mono ?_
  rintro e w' ⟨rfl, rfl⟩
  have q3 := LS1.out
  have q4 := HY.out
  go_wp2_with fail
  refine (HE.out g _ R6.out).mono ?_
  rintro e w' ⟨rfl, rfl⟩
  have HMC : Hid (Calls Try.prog 28 #[.agg C] w6 fun e w' => e = .returned (.bool false) ∧ Below w6.heap.size w6 w') := by rw [HC.out]; exact HM.out dv w6 Q5.out D6.out
  go_wp2_with (refine wpList_load_met rfl 26 (.tmp 7) rfl w5.heap.size rfl 26 C (0, 0) _ G6.out Try.underlying26 ⟨_, rfl⟩ IC.out ?_)
  refine HMC.out.mono ?_
  rintro e w7 ⟨rfl, hb⟩
  have B7 := Lib.hid (B6.out.trans (hb.mono B6.out.size))
  have Y7 := Lib.hid ((hb.block _ (blk_lt Y6.out)).trans Y6.out)
  have G7 := Lib.hid ((hb.block _ (blk_lt G6.out)).trans G6.out)
  have D7 := Lib.hid (D6.out.below hb)
  clear hb
  go_wp2_with (first | (refine wpList_build0_run rfl 26 rfl (BZ.out _) ?_) | (refine wpList_store_row rfl 26 (.tmp 2) (.tmp 35) rfl w.heap.size Z rfl rfl 26 Z Y7.out IZ.out rfl OZ.out ?_))
  have YZ : Hid (_ = some (Obj.cells Z 26 (0, 0))) := setRow_heap _ w.heap.size Z Z _ _ Y7.out
  exact bodyPost_ret (v := .tuple #[.agg Z, .int .i64 70]) (results_ct rfl _ _ w.heap.size 26 Z (0, 0) _ (.int .i64 70) rfl rfl YZ.out Try.underlying26 ⟨_, rfl⟩ IZ.out) rfl (OK.out _ (B7.out.trans (below_row _ _ (Nat.le_refl _))))
end Go.Proofs.Ytdohggpajhkkhaa
