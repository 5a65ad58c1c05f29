/-
  For every slice of ops and every text the law DiskLasts of package casematelaw11 returns true, and the arguments read afterwards as before: what was flushed lasts. Condition: none.
-/
import Derived.Test.YtklhnibmpdaioaaPM
import Derived.Stop.BytesEq
import Derived.BigQuiet
import Derived.Deep.QuietTactic
namespace Go.Proofs.Ytklhnibmpdaioaa.pv
open Go.ChangeShapes Go.WideShapes Go.ChangeAt Go.RowKit
open diskDown (str_tx u32_and3)
/-- A slice of ops. -/
def OS2 (w : World) (x : Option Addr) (l : Nat) : Prop := l ≤ maxLen ∧ ∀ i, i < l → ∃ (k : Int) (s y : Nat) (n : Int) (x' : Option Addr) (l' c' b o : Nat), x = some ⟨b, o, none⟩ ∧ b < w.heap.size ∧ s < 4294967296 ∧ y < 256 ∧ (-9223372036854775808 ≤ n ∧ n ≤ 9223372036854775807) ∧
  w.cell? ⟨b, o + i * 5, none⟩ = some (.int .i64 k) ∧ w.cell? ⟨b, o + i * 5 + 1, none⟩ = some (.int .u32 s) ∧ w.cell? ⟨b, o + i * 5 + 2, none⟩ = some (.int .u8 y) ∧ w.cell? ⟨b, o + i * 5 + 3, none⟩ = some (.int .i64 n) ∧ w.cell? ⟨b, o + i * 5 + 4, none⟩ = some (.slice x' l' c')
/-- A register of one byte. -/
def rgY (y : Nat) : List Value := .int .u8 (y : Int) :: List.replicate 63 (.int .u8 0)
theorem rgY_len (y : Nat) : (rgY y).length = 64 := by simp [rgY]
theorem rgY_one (y : Nat) : ∀ v ∈ rgY y, v.oneCell' = true := fun v hv => by
  simp only [rgY, List.mem_cons] at hv
  rcases hv with rfl | hv
  · rfl
  · rw [List.eq_of_mem_replicate hv]; rfl
/-- A text in memory. -/
def KB (w : World) (x : Option Addr) (l : Nat) : Prop := l ≤ maxLen ∧ ∃ f : Nat → Nat, ∀ j, j < l → f j < 256 ∧ ∃ (b o : Nat), x = some ⟨b, o, none⟩ ∧ b < w.heap.size ∧ w.cell? ⟨b, o + j, none⟩ = some (.int .u8 (f j))
theorem wpList_load_want {P : Program} {ops : Array Oper} {rest : List Oper} {op : Oper} {a : Act} {w : World} {Q : Exit → Act → World → Prop} (hw : Region.wanted op (yielded ops a.tmps) = true) (ty : TypeId) (x : Operand) (ho : op.op = .load ty x)
    (b o : Nat) (hx : a.eval x = .pointer (some ⟨b, o, none⟩)) (cs : List Value) (d : TypeDesc) (hc : w.rangeAt b o cs)
    (hu : P.underlying ty = some d) (hd : d.isRow = true) (hi : (P.info? ty).map (·.size) = some cs.length)
    (h : wpList P ops Q rest (a.put op.dst (.agg cs.toArray)) w) : wpList P ops Q (op :: rest) a w :=
  wpList_step fun K hK => by
    rw [if_pos hw]
    exact wp_load_mid ty x ho b o hx cs d hc hu hd hi (hK _ _ h)
set_option maxRecDepth 100000 in
theorem eq44 (y : Nat) (hy : y < 256) (w : World) : (Op.equalIn 10000 44 (.agg (rgY y).toArray) (.agg (rgY y).toArray)).run Try.prog w = .ok true w := by
  have h := run_equalIn_bytes (P := Try.prog) w 9998 44 5 64 (by kernel_rfl) Try.underlying5 (fun _ => by kernel_rfl) (UInt8.ofNat y :: List.replicate 63 0) (UInt8.ofNat y :: List.replicate 63 0) (by simp) (by simp)
  have h1 : Extern.Stop.cell (UInt8.ofNat y) = Value.int .u8 (y : Int) := by
    unfold Extern.Stop.cell
    congr 1
    simp
    omega
  have h2 : Extern.Stop.cell 0 = Value.int .u8 0 := rfl
  rw [List.map_cons, List.map_replicate, h1, h2] at h
  exact h.trans (by simp)
theorem setRow_at' (w : World) (g : Nat) (t : TypeId) (old cells : Array Value) (hg : w.heap[g]? = some (.cells old t (0, 0))) : (w.setRow g cells).heap[g]? = some (.cells cells t (0, 0)) := by
  simp [World.setRow, Array.getElem?_modify, hg]
theorem setRowM (w : World) (g : Nat) (cells : Array Value) : Mods (fun k => k = g) w (w.setRow g cells) :=
  ⟨rfl, rfl, rfl, by simp, fun b _ h => by simp [World.setRow, Array.getElem?_modify]; intro e; exact absurd e.symm h⟩
namespace diskLasts
set_option maxRecDepth 100000 in
set_option maxHeartbeats 16000000 in
theorem walk (x : Option Addr) (l c : Nat) (x2 : Option Addr) (l2 c2 : Nat) (w : World) (hx : OS2 w x l) (hk : KB w x2 l2) :
    Calls Try.prog 5 #[.slice x l c, .slice x2 l2 c2] w fun e w' => e = .returned (.bool true) ∧ Below w.heap.size w w' := by
  have X := Lib.hid hx.2
  have hlm : l ≤ 9223372036854775807 := by have := hx.1; unfold maxLen at this; omega
  have hlk : l2 ≤ 9223372036854775807 := by have := hk.1; unfold maxLen at this; omega
  obtain ⟨kf, hkf⟩ := hk.2
  have KX := Lib.hid hkf
  clear hx hk hkf
  obtain ⟨V0, hV0⟩ : ∃ V : Nat → Value, V = fun _ => .slice none 0 0 := ⟨_, rfl⟩
  by_cases h100 : l2 ≤ 100
  · have hlk2 : (l2 : Int) ≤ 100 := by omega
    go_enter Try.func5, Try.ntmps5
    go_wp2_with fail
    refine (newD (P := NR V0) 4 (by omega) (by omega) w).mono ?_
    rintro e w1 ⟨g, sb, hb, rfl, h, h1, h2, h3, hbl⟩
    have L1 : Hid (LK (NR V0) w w1 g 4 sb hb (.slice none 0 0) (fun _ => none) [] (List.replicate 64 (.int .u8 0)) 0 (-1) false 0) := ⟨h, hbl, h1, h2, h3, fun k hk => by simp [Value.ownBlock] at hk⟩
    clear h hbl h1 h2 h3
    have hz : ∀ w, (zeroValue 44).run Try.prog w = .ok (.agg (rgY 0).toArray) w := fun w => by kernel_rfl
    have BU : Try.prog.built 44 [] = some (rgY 0).toArray := by kernel_rfl
    have IZ : Hid ((Try.prog.info? 44).map (·.size) = some (rgY 0).toArray.size) := info44s.trans (by rfl)
    have ON : Hid ((rgY 0).toArray.all (·.oneCell') = true) := all_oneCell_toArray (rgY_one 0)
    have E0 : Hid (List.replicate 64 (Value.int .u8 0) = rgY 0) := by show _ = _; rfl
    rw [E0.out] at L1
    obtain ⟨Z, hZ⟩ : ∃ Z, Z = rgY 0 := ⟨_, rfl⟩
    rw [← hZ] at L1 hz BU IZ ON
    have HZ := Lib.hid hZ
    clear hZ E0
    obtain ⟨a7, ha7⟩ : ∃ a, a = w1.heap.size := ⟨_, rfl⟩
    obtain ⟨w2, hw2⟩ : ∃ w2, w2 = w1.alloc (.cells #[.int .u8 0, .int .u8 0, .int .u8 0, .int .u8 0] 58) := ⟨_, rfl⟩
    obtain ⟨a8, ha8⟩ : ∃ a, a = w1.heap.size + 1 := ⟨_, rfl⟩
    obtain ⟨w3, hw3⟩ : ∃ w3, w3 = w2.alloc (.cells #[.slice none 0 0, .slice none 0 0, .slice none 0 0, .slice none 0 0] 59) := ⟨_, rfl⟩
    obtain ⟨a9, ha9⟩ : ∃ a, a = w1.heap.size + 1 + 1 := ⟨_, rfl⟩
    obtain ⟨w4, hw4⟩ : ∃ w4, w4 = w3.alloc (.cells Z.toArray 44) := ⟨_, rfl⟩
    have b2 : Below w1.heap.size w1 w2 := by rw [hw2]; exact (Below.refl _ _).alloc (Nat.le_refl _) _
    have b3 : Below w2.heap.size w2 w3 := by rw [hw3]; exact (Below.refl _ _).alloc (Nat.le_refl _) _
    have b4 : Below w3.heap.size w3 w4 := by rw [hw4]; exact (Below.refl _ _).alloc (Nat.le_refl _) _
    have s2 : w2.heap.size = w1.heap.size + 1 := by rw [hw2]; simp
    have s3 : w3.heap.size = w1.heap.size + 1 + 1 := by rw [hw3]; simp [s2]
    have q7 : w2.heap[a7]? = some (.cells (arr4 (fun _ => 0)) 58 (0, 0)) := by rw [hw2, ha7]; exact heap_alloc_new _ _
    have q8 : w3.heap[a8]? = some (.cells (arrV V0) 59 (0, 0)) := by rw [hw3, ha8, hV0, ← s2]; exact heap_alloc_new _ _
    have q9 : w4.heap[a9]? = some (.cells Z.toArray 44 (0, 0)) := by rw [hw4, ha9, ← s3]; exact heap_alloc_new _ _
    have S4 : Hid (LS w w4 g sb hb (.slice none 0 0) (fun _ => none) [] Z 0 (-1) false 0 a7 a8 a9 V0 (fun _ => []) (fun _ => 0) Z) := by
      have l4 := ((L1.out.below b2).below b3).below b4
      have z1 := L1.out.b.size
      have z2 := b2.size
      have z3 := b3.size
      refine ⟨l4, ?_, ?_, q9, fun k hk => ?_, fun i j _ _ _ b e => ?_, fun k _ b e => ?_, by omega, by omega, by omega⟩
      · exact (b4.block _ (by have := (Array.getElem?_eq_some_iff.1 q7).1; omega)).trans ((b3.block _ (Array.getElem?_eq_some_iff.1 q7).1).trans q7)
      · exact (b4.block _ (Array.getElem?_eq_some_iff.1 q8).1).trans q8
      · rw [hV0]; exact Rw.nil _ _ _
      · rw [hV0] at e; simp [Value.ownBlock] at e
      · rw [hV0] at e; simp [Value.ownBlock] at e
    have G4 := Lib.hid q9
    have SR : Hid (w4.setRow a9 Z.toArray = w4) := by show _ = _; rw [hw4, ha9, ← s3, alloc_setRow]
    have W2 := Lib.hid hw2
    have W3 := Lib.hid hw3
    have W4 := Lib.hid hw4
    have A7 := Lib.hid ha7
    have A8 := Lib.hid ha8
    have A9 := Lib.hid ha9
    clear hw2 hw3 hw4 ha7 ha8 ha9 L1 b2 b3 b4 q7 q8 q9 s2 s3
    go_wp2_with (refine wpList_store_row rfl 44 (.tmp 9) (.tmp 41) rfl (w1.heap.size + 1 + 1) Z.toArray rfl rfl 44 Z.toArray (by rw [← W2.out, ← W3.out, ← W4.out, ← A9.out]; exact G4.out) IZ.out rfl ON.out ?_)
    rw [← W2.out, ← W3.out, ← W4.out, ← A9.out, ← A8.out, ← A7.out, SR.out]
    have FQ4 : Hid (∀ k, k < 4 → (fun _ => 0 : Nat → Nat) k = ((fun _ => none : Nat → Option Nat) k).getD 0 ∧ (fun _ => [] : Nat → List Nat) k = wk k []) := fun k _ => ⟨rfl, rfl⟩
    have RQ4 : Hid (∃ y, y < 256 ∧ Z = rgY y) := ⟨0, by omega, HZ.out⟩
    clear W2 W3 W4 A7 A8 A9 SR hz BU IZ ON HZ G4
    generalize (fun _ => 0 : Nat → Nat) = f0 at *
    generalize (fun _ => [] : Nat → List Nat) = R0 at *
    generalize (fun _ => none : Nat → Option Nat) = su0 at *
    clear hV0
    go_loopg [10, 11, 12, 13] (min l 100) (fun r vi _ _ _ wr => ∃ (j : Nat) (wv : Value) (su : Nat → Option Nat) (ws : List (Nat × Nat)) (rg : List Value) (C p : Int) (d : Bool) (K : Nat) (V : Nat → Value) (R : Nat → List Nat) (f : Nat → Nat), r + j = min l 100 ∧ vi = .int .i64 j ∧ LS w wr g sb hb wv su ws rg C p d K a7 a8 a9 V R f rg ∧ (∀ k, k < 4 → f k = (su k).getD 0 ∧ R k = wk k ws) ∧ 0 ≤ C ∧ C ≤ j ∧ PP p ∧ K ≤ j ∧ ∃ y, y < 256 ∧ rg = rgY y)
    case atStart => exact ⟨0, _, _, _, _, _, _, _, _, _, _, _, by omega, rfl, S4.out, FQ4.out, by omega, by omega, .inl rfl, by omega, RQ4.out⟩
    case round =>
      clear S4 FQ4 RQ4
      obtain ⟨j, wv, su, ws, rg, C, p, d, K, V, R, f, hr, rfl, hls, hfq, hc0, hc1, hpp, hk0, hrq⟩ := hrel
      have S := Lib.hid hls
      have FQ := Lib.hid hfq
      have HR := Lib.hid hr
      have CB : Hid (0 ≤ C ∧ C ≤ j ∧ K ≤ j ∧ PP p) := ⟨hc0, hc1, hk0, hpp⟩
      have RQ := Lib.hid hrq
      clear hls hfq hr hc0 hc1 hpp hk0 hrq
      by_cases hlt : j < l ∧ j < 100
      · obtain ⟨hj1, hj2⟩ := hlt
        obtain ⟨kd, s, y, n', x', l', c', b, o, rfl, hbl, hs4, hy, hn', c0, c1, c2, c3, c4⟩ := X.out j hj1
        have e0 := (S.out.lk.b.cell (p := ⟨b, o + j * 5, none⟩) hbl).trans c0
        have e1 := (S.out.lk.b.cell (p := ⟨b, o + j * 5 + 1, none⟩) hbl).trans c1
        have e2 := (S.out.lk.b.cell (p := ⟨b, o + j * 5 + 2, none⟩) hbl).trans c2
        have e3 := (S.out.lk.b.cell (p := ⟨b, o + j * 5 + 3, none⟩) hbl).trans c3
        have e4 := (S.out.lk.b.cell (p := ⟨b, o + j * 5 + 4, none⟩) hbl).trans c4
        obtain ⟨s3, hs3, hs33⟩ := u32_and3 s hs4
        have hs3i : (s3 : Int) ≤ 3 := by omega
        have hs34 : s3 < 4 := by omega
        have HY : Hid (y < 256) := hy
        have HN' := Lib.hid hn'
        clear hn' c0 c1 c2 c3 c4 hbl hs4 hy hs33
        obtain ⟨q, hq⟩ : ∃ q, q = wr.heap.size := ⟨_, rfl⟩
        obtain ⟨v0, hv0⟩ : ∃ v0, v0 = wr.alloc (.cells #[.int .i64 kd, .int .u32 s, .int .u8 y, .int .i64 n', .slice x' l' c'] 34) := ⟨_, rfl⟩
        have CE : Hid (Below wr.heap.size wr v0) := by show Below _ _ _; rw [hv0]; exact (Below.refl _ _).alloc (Nat.le_refl _) _
        have S1 := Lib.hid (S.out.below CE.out)
        have O1 : Hid (diskDown.Opc v0 q kd s y n' x' l' c') := ⟨by rw [hv0, hq]; exact heap_alloc_new _ _⟩
        have V0e := Lib.hid hv0
        have Qe := Lib.hid hq
        have f1 := O1.out.c1
        have f2 := O1.out.c2
        have f0 := O1.out.c0
        clear CE hv0 hq S
        by_cases k0 : kd = 0
        · have q0 : (kd == 0) = true := by simp [k0]
          clear k0
          go_wp2_with fail
          rw [← V0e.out, ← Qe.out]
          clear V0e Qe e0 e1 e2 e3 e4
          refine (fullAny y 0 512 (.inr ⟨by omega, rfl⟩) v0).mono ?_
          rintro e w3 ⟨b3, rfl, k1, _, k3⟩
          have S3 := Lib.hid (S1.out.below k3)
          have O3 := Lib.hid (O1.out.below k3)
          have T3 : Hid (Go.Proofs.Ytklhnibmpdaioaa.TX w3 (.slice (some ⟨b3, 0, none⟩) 512 512) (tx y)) := ⟨b3, by rw [tx_len], k1⟩
          clear k1 k3 S1 O1 f0 f1 f2
          go_wp2_with fail
          refine (writeAny S3.out.lk.dk s3 y _ (by omega) T3.out S3.out.fresh HY.out CB.out.1 (by have := CB.out; omega) CB.out.2.2.2 (by have := CB.out; omega)).mono ?_
          rintro e w5 ⟨ok, v5, c5, p4, d5, rfl, hd, hc5a, hc5b, hp4⟩
          have P5 : Hid (diskDown.Opc w5 q kd s y n' x' l' c') := ⟨(hd.m.block _ (Array.getElem?_eq_some_iff.1 O3.out.row).1 (S3.out.lk.dk.not O3.out.row (by decide) (by decide))).trans O3.out.row⟩
          cases ok with
          | false =>
            have L5 := Lib.hid (S3.out.step hd)
            clear hd S3 T3 O3
            go_wp2_with fail
            go_roundg (min l 100 - (j + 1))
            case measure => have := HR.out; omega
            case rel => exact ⟨j + 1, _, _, _, _, _, _, _, _, _, _, _, by omega, by go_num, L5.out, FQ.out, hc5a, by have := CB.out; omega, hp4, by have := CB.out; omega, RQ.out⟩
          | true =>
            have L5 := Lib.hid (S3.out.step hd)
            clear hd S3 T3 O3
            have hlen : (R s3).length ≤ 1000 := by
              obtain ⟨_, _, _, hw, _⟩ := L5.out.lk.dk.sure
              have h1 := wk_take_len s3 ws
              rw [(FQ.out s3 hs34).2]
              have := CB.out
              simp at hw
              omega
            have LD := L5.out.below (w' := w5.drew) ((Below.refl _ _).drew)
            obtain ⟨xa, ka, w6, k1, k2, k3, k4, k5, k6⟩ := LD.app hs34 (y := y) hlen
            obtain ⟨xv, cv, hv, _, _⟩ := (LD.rw s3 hs34).form
            have hrow0 : w5.drew.cell? ⟨a8, s3, none⟩ = some (.slice xv (R s3).length cv) := by rw [cell_of_row _ _ _ _ _ _ LD.r8, arrV_at V s3 hs34, hv]
            have P5d : w5.drew.cell? ⟨q, 2, none⟩ = some (.int .u8 y) := P5.out.c2
            have K5 : w6.heap[q]? = some (.cells #[.int .i64 kd, .int .u32 s, .int .u8 y, .int .i64 n', .slice x' l' c'] 34 (0, 0)) := k5 q _ _ P5.out.row (by decide)
            have k8 := k5 a8 _ _ LD.r8 (by decide)
            have HS1 : Hid (w6.cell? ⟨q, 2, none⟩ = some (.int .u8 y)) := by show _ = _; rw [cell_of_row _ _ _ _ _ _ K5]; rfl
            have HS2 : Hid ((w6.setCell ⟨a8, s3, none⟩ (.slice xa ((R s3).length + 1) ka)).cell? ⟨q, 2, none⟩ = some (.int .u8 y)) := by
              show _ = _
              have hne := ne_block K5 k8 (by decide)
              rw [← HS1.out]
              exact World.cell?_of_block ((Mods.set (S := fun k => k = a8) w6 ⟨a8, s3, none⟩ _ rfl).block q (Array.getElem?_eq_some_iff.1 K5).1 hne)
            rw [hv] at k1 k2
            have HRUN := Lib.hid k1
            have K2 := Lib.hid k2
            have K3 := Lib.hid k3
            have L6 := Lib.hid k6
            have FQ6 : Hid (∀ k, k < 4 → f k = (su k).getD 0 ∧ updV R s3 (R s3 ++ [y]) k = wk k (ws ++ [(s3, y)])) := fun k hk => ⟨(FQ.out k hk).1, by
              rw [wk_app]
              unfold updV
              by_cases e : k = s3
              · rw [if_pos e, if_pos e, e, (FQ.out s3 hs34).2]
              · rw [if_neg e, if_neg e]; exact (FQ.out k hk).2⟩
            generalize hnv : (R s3).length = nv at *
            clear k1 k2 k3 k4 k5 k6 K5 k8 LD L5 hv hlen hnv P5
            go_wp2_with fail
            refine wp_region_held_drew (S := fun W => W.cell? ⟨q, 2, none⟩ = some (.int .u8 y)) (by kernel_rfl) P5d (fun hS => ?_)
            refine' wpAnyH_take (i := 0) ?h1x0a ?hsx0a ?hfx0a ?hrx0a ?hQx0a (Or.inl ⟨?hwx0a, ?hyx0a⟩) hS ?restx0a
            case h1x0a => (simp only [List.getElem?_toArray, List.getElem?_cons_zero]; rfl)
            case hsx0a => kernel_rfl
            case hfx0a => kernel_rfl
            case hrx0a => kernel_rfl
            case hQx0a => exact fun _ _ _ h => h
            case hwx0a => rfl
            case hyx0a =>
              intro W hW
              go_simp
              try with_reducible rfl
            simp only [Act.put, List.setIfInBounds_toArray, List.set_cons_succ, List.set_cons_zero]
            refine' wpAnyH_take (i := 1) ?h1x1a ?hsx1a ?hfx1a ?hrx1a ?hQx1a (Or.inl ⟨?hwx1a, ?hyx1a⟩) hS ?restx1a
            case h1x1a => (simp only [List.getElem?_toArray, List.getElem?_cons_succ, List.getElem?_cons_zero]; rfl)
            case hsx1a => kernel_rfl
            case hfx1a => kernel_rfl
            case hrx1a => kernel_rfl
            case hQx1a => exact fun _ _ _ h => h
            case hwx1a => rfl
            case hyx1a =>
              intro W hW
              go_simp
              try with_reducible rfl
            simp only [Act.put, List.setIfInBounds_toArray, List.set_cons_succ, List.set_cons_zero]
            refine' wpAnyH_take (i := 2) ?h1x2a ?hsx2a ?hfx2a ?hrx2a ?hQx2a (Or.inl ⟨?hwx2a, ?hyx2a⟩) hS ?restx2a
            case h1x2a => (simp only [List.getElem?_toArray, List.getElem?_cons_succ, List.getElem?_cons_zero]; rfl)
            case hsx2a => kernel_rfl
            case hfx2a => kernel_rfl
            case hrx2a => kernel_rfl
            case hQx2a => exact fun _ _ _ h => h
            case hwx2a => rfl
            case hyx2a =>
              intro W hW
              have ti : (s3 : Int) < 4 := by omega
              go_simp
              try with_reducible rfl
            simp only [Act.put, List.setIfInBounds_toArray, List.set_cons_succ, List.set_cons_zero]
            refine' wpAnyH_take (i := 4) ?h1x4a ?hsx4a ?hfx4a ?hrx4a ?hQx4a (Or.inl ⟨?hwx4a, ?hyx4a⟩) hS ?restx4a
            case h1x4a => (simp only [List.getElem?_toArray, List.getElem?_cons_succ, List.getElem?_cons_zero]; rfl)
            case hsx4a => kernel_rfl
            case hfx4a => kernel_rfl
            case hrx4a => kernel_rfl
            case hQx4a => exact fun _ _ _ h => h
            case hwx4a => rfl
            case hyx4a =>
              intro W hW
              go_simp
              try with_reducible rfl
            simp only [Act.put, List.setIfInBounds_toArray, List.set_cons_succ, List.set_cons_zero]
            refine' wpAnyH_take (i := 5) ?h1x5a ?hsx5a ?hfx5a ?hrx5a ?hQx5a (Or.inl ⟨?hwx5a, ?hyx5a⟩) hS ?restx5a
            case h1x5a => (simp only [List.getElem?_toArray, List.getElem?_cons_succ, List.getElem?_cons_zero]; rfl)
            case hsx5a => kernel_rfl
            case hfx5a => kernel_rfl
            case hrx5a => kernel_rfl
            case hQx5a => exact fun _ _ _ h => h
            case hwx5a => rfl
            case hyx5a =>
              intro W hW
              have dd := hW
              go_simp
              try with_reducible rfl
            simp only [Act.put, List.setIfInBounds_toArray, List.set_cons_succ, List.set_cons_zero]
            have hrow := hrow0
            generalize w5.drew = Wd at *
            refine wpAnyH_ready (rs := [3, 6]) (by kernel_rfl) (by simp) ?_
            refine' (AllReadyH.cons ?hoc3a (fun K hK => ?stc3a) (AllReadyH.cons ?hoc6a (fun K hK => ?stc6a) AllReadyH.nil))
            case hoc3a => (simp only [List.getElem?_toArray, List.getElem?_cons_succ, List.getElem?_cons_zero]; rfl)
            case hoc6a => (simp only [List.getElem?_toArray, List.getElem?_cons_succ, List.getElem?_cons_zero]; rfl)
            case stc3a =>
              have dd := hrow
              go_simp
              refine hK.out _ _ hS (fun hHeld => ?_)
              clear hK K dd
              try simp only [Act.put, List.setIfInBounds_toArray, List.set_cons_succ, List.set_cons_zero]
              clear hS
              have hS := hHeld
              clear hHeld
              refine wpAnyH_ready (rs := [6]) (by kernel_rfl) (by simp) ?_
              refine' AllReadyH.cons ?hoc6a3x (fun K hK => ?stc6a3x) AllReadyH.nil
              case hoc6a3x => (simp only [List.getElem?_toArray, List.getElem?_cons_succ, List.getElem?_cons_zero]; rfl)
              go_simp
              have hal : Below Wd.heap.size Wd (Wd.alloc (.cells #[.int .u8 y] 5)) := (Below.refl _ _).alloc (Nat.le_refl _) _
              refine hK.out _ _ ((hal.cell (p := ⟨q, 2, none⟩) (World.block_lt_of_cell? Wd _ hS)).trans hS) (fun hHeld => ?_)
              clear hK K
              try simp only [Act.put, List.setIfInBounds_toArray, List.set_cons_succ, List.set_cons_zero]
              have hrow : (Wd.alloc (.cells #[.int .u8 y] 5)).cell? ⟨a8, s3, none⟩ = some (.slice xv nv cv) := (hal.cell (p := ⟨a8, s3, none⟩) (World.block_lt_of_cell? Wd _ hrow)).trans hrow
              clear hS
              have hS := hHeld
              clear hHeld
              clear hal
              refine wpAnyH_ready (rs := [7]) (by kernel_rfl) (by simp) ?_
              refine' AllReadyH.cons ?hoc7a3x6x (fun K hK => ?stc7a3x6x) AllReadyH.nil
              case hoc7a3x6x => (simp only [List.getElem?_toArray, List.getElem?_cons_succ, List.getElem?_cons_zero]; rfl)
              refine step_app_run rfl _ _ 32 rfl rfl rfl rfl HRUN.out ?_
              refine hK.out _ _ HS1.out (fun hHeld => ?_)
              clear hK K hrow
              try simp only [Act.put, List.setIfInBounds_toArray, List.set_cons_succ, List.set_cons_zero]
              clear hS
              have hS := hHeld
              clear hHeld
              refine' wpAnyH_take (i := 8) ?h1x8a3x6x ?hsx8a3x6x ?hfx8a3x6x ?hrx8a3x6x ?hQx8a3x6x (Or.inl ⟨?hwx8a3x6x, ?hyx8a3x6x⟩) hS ?restx8a3x6x
              case h1x8a3x6x => (simp only [List.getElem?_toArray, List.getElem?_cons_succ, List.getElem?_cons_zero]; rfl)
              case hsx8a3x6x => kernel_rfl
              case hfx8a3x6x => kernel_rfl
              case hrx8a3x6x => kernel_rfl
              case hQx8a3x6x => exact fun _ _ _ h => h
              case hwx8a3x6x => rfl
              case hyx8a3x6x =>
                intro W hW
                have ti : (s3 : Int) < 4 := by omega
                go_simp
                try with_reducible rfl
              simp only [Act.put, List.setIfInBounds_toArray, List.set_cons_succ, List.set_cons_zero]
              refine wpAnyH_ready (rs := [9]) (by kernel_rfl) (by simp) ?_
              refine' AllReadyH.cons ?hoc9a3x6x (fun K hK => ?stc9a3x6x) AllReadyH.nil
              case hoc9a3x6x => (simp only [List.getElem?_toArray, List.getElem?_cons_succ, List.getElem?_cons_zero]; rfl)
              have dd := K2.out
              have df := K3.out
              go_simp
              refine hK.out _ _ HS2.out (fun hHeld => ?_)
              clear hK K dd df
              try simp only [Act.put, List.setIfInBounds_toArray, List.set_cons_succ, List.set_cons_zero]
              refine wpAnyH_done (by kernel_rfl) ?_ _
              clear hrow0
              go_wp2_with fail
              go_roundg (min l 100 - (j + 1))
              case measure => have := HR.out; omega
              case rel => exact ⟨j + 1, _, _, _, _, _, _, _, _, _, _, _, by omega, by go_num, L6.out, FQ6.out, by have := CB.out; omega, by have := CB.out; omega, hp4, by have := CB.out; omega, RQ.out⟩
            case stc6a =>
              go_simp
              have hal : Below Wd.heap.size Wd (Wd.alloc (.cells #[.int .u8 y] 5)) := (Below.refl _ _).alloc (Nat.le_refl _) _
              refine hK.out _ _ ((hal.cell (p := ⟨q, 2, none⟩) (World.block_lt_of_cell? Wd _ hS)).trans hS) (fun hHeld => ?_)
              clear hK K
              try simp only [Act.put, List.setIfInBounds_toArray, List.set_cons_succ, List.set_cons_zero]
              have hrow : (Wd.alloc (.cells #[.int .u8 y] 5)).cell? ⟨a8, s3, none⟩ = some (.slice xv nv cv) := (hal.cell (p := ⟨a8, s3, none⟩) (World.block_lt_of_cell? Wd _ hrow)).trans hrow
              clear hS
              have hS := hHeld
              clear hHeld
              clear hal
              refine wpAnyH_ready (rs := [3]) (by kernel_rfl) (by simp) ?_
              refine' AllReadyH.cons ?hoc3a6x (fun K hK => ?stc3a6x) AllReadyH.nil
              case hoc3a6x => (simp only [List.getElem?_toArray, List.getElem?_cons_succ, List.getElem?_cons_zero]; rfl)
              have dd := hrow
              go_simp
              refine hK.out _ _ hS (fun hHeld => ?_)
              clear hK K dd
              try simp only [Act.put, List.setIfInBounds_toArray, List.set_cons_succ, List.set_cons_zero]
              clear hS
              have hS := hHeld
              clear hHeld
              refine wpAnyH_ready (rs := [7]) (by kernel_rfl) (by simp) ?_
              refine' AllReadyH.cons ?hoc7a6x3x (fun K hK => ?stc7a6x3x) AllReadyH.nil
              case hoc7a6x3x => (simp only [List.getElem?_toArray, List.getElem?_cons_succ, List.getElem?_cons_zero]; rfl)
              refine step_app_run rfl _ _ 32 rfl rfl rfl rfl HRUN.out ?_
              refine hK.out _ _ HS1.out (fun hHeld => ?_)
              clear hK K hrow
              try simp only [Act.put, List.setIfInBounds_toArray, List.set_cons_succ, List.set_cons_zero]
              clear hS
              have hS := hHeld
              clear hHeld
              refine' wpAnyH_take (i := 8) ?h1x8a6x3x ?hsx8a6x3x ?hfx8a6x3x ?hrx8a6x3x ?hQx8a6x3x (Or.inl ⟨?hwx8a6x3x, ?hyx8a6x3x⟩) hS ?restx8a6x3x
              case h1x8a6x3x => (simp only [List.getElem?_toArray, List.getElem?_cons_succ, List.getElem?_cons_zero]; rfl)
              case hsx8a6x3x => kernel_rfl
              case hfx8a6x3x => kernel_rfl
              case hrx8a6x3x => kernel_rfl
              case hQx8a6x3x => exact fun _ _ _ h => h
              case hwx8a6x3x => rfl
              case hyx8a6x3x =>
                intro W hW
                have ti : (s3 : Int) < 4 := by omega
                go_simp
                try with_reducible rfl
              simp only [Act.put, List.setIfInBounds_toArray, List.set_cons_succ, List.set_cons_zero]
              refine wpAnyH_ready (rs := [9]) (by kernel_rfl) (by simp) ?_
              refine' AllReadyH.cons ?hoc9a6x3x (fun K hK => ?stc9a6x3x) AllReadyH.nil
              case hoc9a6x3x => (simp only [List.getElem?_toArray, List.getElem?_cons_succ, List.getElem?_cons_zero]; rfl)
              have dd := K2.out
              have df := K3.out
              go_simp
              refine hK.out _ _ HS2.out (fun hHeld => ?_)
              clear hK K dd df
              try simp only [Act.put, List.setIfInBounds_toArray, List.set_cons_succ, List.set_cons_zero]
              refine wpAnyH_done (by kernel_rfl) ?_ _
              clear hrow0
              go_wp2_with fail
              go_roundg (min l 100 - (j + 1))
              case measure => have := HR.out; omega
              case rel => exact ⟨j + 1, _, _, _, _, _, _, _, _, _, _, _, by omega, by go_num, L6.out, FQ6.out, by have := CB.out; omega, by have := CB.out; omega, hp4, by have := CB.out; omega, RQ.out⟩
        · have q0 : (kd == 0) = false := by simp [k0]
          by_cases k2 : kd = 2
          · have q2 : (kd == 2) = true := by simp [k2]
            clear k0 k2
            go_wp2_with fail
            rw [← V0e.out, ← Qe.out]
            clear V0e Qe e0 e1 e2 e3 e4 f0 f1 f2 O1
            refine (flushAny S1.out.lk.dk CB.out.1 (by have := CB.out; omega) CB.out.2.2.2).mono ?_
            rintro e w5 ⟨ok, v5, c5, p4, d5, rfl, hd, hc5a, hc5b, hp4⟩
            cases ok with
            | false =>
              have L5 := Lib.hid (S1.out.step hd)
              clear hd S1
              go_wp2_with fail
              go_roundg (min l 100 - (j + 1))
              case measure => have := HR.out; omega
              case rel => exact ⟨j + 1, _, _, _, _, _, _, _, _, _, _, _, by omega, by go_num, L5.out, FQ.out, hc5a, by have := CB.out; omega, hp4, by have := CB.out; omega, RQ.out⟩
            | true =>
              have L5 : Hid (LS w w5 g sb hb v5 (allS su ws) [] rg c5 p4 d5 K a7 a8 a9 V R f rg) := S1.out.step hd
              clear hd S1
              go_wp2_with fail
              go_loopg [13] 4 (fun r vk wr2 => ∃ (i : Nat) (V2 : Nat → Value) (R2 : Nat → List Nat) (f2 : Nat → Nat), r + i = 4 ∧ vk = .int .i64 i ∧ LS w wr2 g sb hb v5 (allS su ws) [] rg c5 p4 d5 K a7 a8 a9 V2 R2 f2 rg ∧ ∀ k, k < 4 → (k < i → f2 k = (allS su ws k).getD 0 ∧ R2 k = []) ∧ (i ≤ k → f2 k = (su k).getD 0 ∧ R2 k = wk k ws))
              case atStart => exact ⟨0, V, R, f, rfl, rfl, L5.out, fun k hk => ⟨fun h => by omega, fun _ => FQ.out k hk⟩⟩
              case round =>
                clear L5
                obtain ⟨i, V2, R2, f2, hr2, rfl, hl2, hq2⟩ := hrel
                have L5 := Lib.hid hl2
                have Q2 := Lib.hid hq2
                have HR2 := Lib.hid hr2
                clear hl2 hq2 hr2
                by_cases hi4 : i < 4
                · have hi3 : (i : Int) ≤ 3 := by omega
                  obtain ⟨xv, cv, hv, hnc, hcm⟩ := (L5.out.rw i hi4).form
                  unfold maxLen at hcm
                  have hcell : wr.cell? ⟨a8, i, none⟩ = some (.slice xv (R2 i).length cv) := by rw [cell_of_row _ _ _ _ _ _ L5.out.r8, arrV_at V2 i hi4, hv]
                  have hfz : wr.frozen? ⟨a8, i, none⟩ = false := by have := L5.out.r8; simp [World.frozen?, this]
                  by_cases hR : R2 i = []
                  · have hn0 : (R2 i).length = 0 := by rw [hR]; rfl
                    rw [hn0] at hcell
                    have L6 := Lib.hid (L5.out.wait_nil hi4)
                    have Q6 : Hid (∀ k, k < 4 → (k < i + 1 → f2 k = (allS su ws k).getD 0 ∧ updV R2 i [] k = []) ∧ (i + 1 ≤ k → f2 k = (su k).getD 0 ∧ updV R2 i [] k = wk k ws)) := fun k hk => by
                      unfold updV
                      refine ⟨fun h => ?_, fun h => ?_⟩
                      · by_cases e : k = i
                        · rw [if_pos e]
                          refine ⟨?_, rfl⟩
                          have h1 := ((Q2.out k hk).2 (by omega))
                          have h2 : wk k ws = [] := by rw [← h1.2, e, hR]
                          rw [allS_get, h2, h1.1]; rfl
                        · rw [if_neg e]; exact (Q2.out k hk).1 (by omega)
                      · rw [if_neg (by omega)]; exact (Q2.out k hk).2 (by omega)
                    clear L5 hR hv hn0
                    go_wp2_with fail
                    go_roundg (4 - (i + 1))
                    case measure => have := HR2.out; omega
                    case rel => exact ⟨i + 1, _, _, _, by omega, by go_num, L6.out, Q6.out⟩
                  · obtain ⟨Rl, yl, hRl⟩ : ∃ Rl yl, R2 i = Rl ++ [yl] := ⟨_, _, (List.dropLast_concat_getLast hR).symm⟩
                    have hnl : (R2 i).length = Rl.length + 1 := by rw [hRl]; simp
                    have hlast : (R2 i)[Rl.length]? = some yl := by rw [hRl]; simp
                    have hrw := L5.out.rw i hi4
                    rw [hv] at hrw
                    obtain ⟨br, o2, rfl, hcy, _⟩ := Rw.cell hrw (bc_at hlast)
                    rw [hnl] at hcell hnc
                    obtain ⟨m, hm⟩ : ∃ m, m = Rl.length := ⟨_, rfl⟩
                    rw [← hm] at hcell hcy hnc
                    have g7 : wr.cell? ⟨a7, i, none⟩ = some (.int .u8 (f2 i)) := by rw [cell_of_row _ _ _ _ _ _ L5.out.r7]; exact arr4_at f2 i hi4
                    have z7 : wr.frozen? ⟨a7, i, none⟩ = false := by have := L5.out.r7; simp [World.frozen?, this]
                    have L6 := Lib.hid ((L5.out.below (w' := wr.drew) ((Below.refl _ _).drew)).sure_set (y := yl) hi4)
                    have hc6 : (wr.drew.setCell ⟨a7, i, none⟩ (.int .u8 yl)).cell? ⟨a8, i, none⟩ = some (.slice (some ⟨br, o2, none⟩) (m + 1) cv) := by
                      rw [cell_of_row _ _ _ _ _ _ L6.out.r8, arrV_at V2 i hi4, hv, hnl, ← hm]
                    have hz6 : (wr.drew.setCell ⟨a7, i, none⟩ (.int .u8 yl)).frozen? ⟨a8, i, none⟩ = false := by have := L6.out.r8; simp only [World.frozen?, this]; rfl
                    have L7 := Lib.hid (L6.out.wait_nil hi4)
                    have Q6 : Hid (∀ k, k < 4 → (k < i + 1 → updN f2 i yl k = (allS su ws k).getD 0 ∧ updV R2 i [] k = []) ∧ (i + 1 ≤ k → updN f2 i yl k = (su k).getD 0 ∧ updV R2 i [] k = wk k ws)) := fun k hk => by
                      unfold updV updN
                      refine ⟨fun h => ?_, fun h => ?_⟩
                      · by_cases e : k = i
                        · rw [if_pos e, if_pos e]
                          refine ⟨?_, rfl⟩
                          have h1 := ((Q2.out k hk).2 (by omega))
                          have h2 : wk k ws = Rl ++ [yl] := by rw [← h1.2, e, hRl]
                          rw [allS_get, h2]; simp
                        · rw [if_neg e, if_neg e]; exact (Q2.out k hk).1 (by omega)
                      · rw [if_neg (by omega), if_neg (by omega)]; exact (Q2.out k hk).2 (by omega)
                    have hmc : m < cv := by omega
                    have HM := Lib.hid hm
                    clear L5 hR hv hRl hnl hlast hrw hm
                    go_wp2_with fail
                    have sm : IntKind.i64.wrap (m : Int) = (m : Int) := by rw [IntKind.wrap_i64]; omega
                    have sm2 : (m : Int) < (m : Int) + 1 := by omega
                    have hcD : wr.drew.cell? ⟨a8, i, none⟩ = some (.slice (some ⟨br, o2, none⟩) (m + 1) cv) := hcell
                    have hcY : wr.drew.cell? ⟨br, o2 + m, none⟩ = some (.int .u8 yl) := hcy
                    have hc7 : wr.drew.cell? ⟨a7, i, none⟩ = some (.int .u8 (f2 i)) := g7
                    have hz7 : wr.drew.frozen? ⟨a7, i, none⟩ = false := z7
                    refine wp_region_still_tail 12 (by kernel_rfl) (by kernel_rfl) ?_
                    simp only [List.take_succ_cons, List.take_zero, List.drop_succ_cons, List.drop_zero]
                    iterate 12 still_step
                    refine wpStill_nil ?_
                    change wpList _ _ _ _ _ wr.drew
                    clear hcell hcy g7 z7
                    generalize wr.drew = wd at *
                    go_wp2_with fail
                    go_roundg (4 - (i + 1))
                    case measure => have := HR2.out; omega
                    case rel => exact ⟨i + 1, _, _, _, by omega, by go_num, L7.out, Q6.out⟩
                · have hi4' : i = 4 := by have := HR2.out; omega
                  have Q7 : Hid (∀ k, k < 4 → f2 k = (allS su ws k).getD 0 ∧ R2 k = wk k []) := fun k hk => (Q2.out k hk).1 (by omega)
                  clear hi4' Q2
                  go_wp2_with fail
                  go_roundg (min l 100 - (j + 1))
                  case measure => have := HR.out; omega
                  case rel => exact ⟨j + 1, _, _, _, _, _, _, _, _, _, _, _, by omega, by go_num, L5.out, Q7.out, hc5a, by have := CB.out; omega, hp4, by have := CB.out; omega, RQ.out⟩
          · have q2 : (kd == 2) = false := by simp [k2]
            by_cases k3 : kd = 3
            · have q3 : (kd == 3) = true := by simp [k3]
              clear k0 k2 k3
              obtain ⟨Zy, hZy⟩ : ∃ Zy, Zy = rgY y := ⟨_, rfl⟩
              have LIT : Hid (#[Value.int .u8 (y : Int), Value.int .u8 0, Value.int .u8 0, Value.int .u8 0, Value.int .u8 0, Value.int .u8 0, Value.int .u8 0, Value.int .u8 0, Value.int .u8 0, Value.int .u8 0, Value.int .u8 0, Value.int .u8 0, Value.int .u8 0, Value.int .u8 0, Value.int .u8 0, Value.int .u8 0, Value.int .u8 0, Value.int .u8 0, Value.int .u8 0, Value.int .u8 0, Value.int .u8 0, Value.int .u8 0, Value.int .u8 0, Value.int .u8 0, Value.int .u8 0, Value.int .u8 0, Value.int .u8 0, Value.int .u8 0, Value.int .u8 0, Value.int .u8 0, Value.int .u8 0, Value.int .u8 0, Value.int .u8 0, Value.int .u8 0, Value.int .u8 0, Value.int .u8 0, Value.int .u8 0, Value.int .u8 0, Value.int .u8 0, Value.int .u8 0, Value.int .u8 0, Value.int .u8 0, Value.int .u8 0, Value.int .u8 0, Value.int .u8 0, Value.int .u8 0, Value.int .u8 0, Value.int .u8 0, Value.int .u8 0, Value.int .u8 0, Value.int .u8 0, Value.int .u8 0, Value.int .u8 0, Value.int .u8 0, Value.int .u8 0, Value.int .u8 0, Value.int .u8 0, Value.int .u8 0, Value.int .u8 0, Value.int .u8 0, Value.int .u8 0, Value.int .u8 0, Value.int .u8 0, Value.int .u8 0] = Zy.toArray) := by show _ = _; rw [hZy]; rfl
              have ZL : Hid (Zy.length = 64) := by show _ = _; rw [hZy]; exact rgY_len y
              have Z1 : Hid (∀ v ∈ Zy, v.oneCell' = true) := by show ∀ v ∈ Zy, _; rw [hZy]; exact rgY_one y
              have ZE := Lib.hid hZy
              clear hZy
              go_wp2_with fail
              rw [← V0e.out, ← Qe.out, LIT.out]
              clear V0e Qe e0 e1 e2 e3 e4
              refine (setregAny S1.out.lk.dk CB.out.1 (by have := CB.out; omega) CB.out.2.2.2 Zy ZL.out Z1.out).mono ?_
              rintro e w5 ⟨ok, v5, c5, p4, d5, rfl, hd, hc5a, hc5b, hp4⟩
              have P5 : Hid (diskDown.Opc w5 q kd s y n' x' l' c') := ⟨(hd.m.block _ (Array.getElem?_eq_some_iff.1 O1.out.row).1 (S1.out.lk.dk.not O1.out.row (by decide) (by decide))).trans O1.out.row⟩
              cases ok with
              | false =>
                have L5 := Lib.hid (S1.out.step hd)
                clear hd S1 O1 f0 f1 f2
                go_wp2_with fail
                go_roundg (min l 100 - (j + 1))
                case measure => have := HR.out; omega
                case rel => exact ⟨j + 1, _, _, _, _, _, _, _, _, _, _, _, by omega, by go_num, L5.out, FQ.out, hc5a, by have := CB.out; omega, hp4, by have := CB.out; omega, RQ.out⟩
              | true =>
                have L5 : Hid (LS w w5 g sb hb v5 su ws Zy c5 p4 d5 K a7 a8 a9 V R f rg) := S1.out.step hd
                clear hd S1 O1 f0 f1 f2
                have g2 := P5.out.c2
                have RGL : Hid (rg.length = 64) := by obtain ⟨z, _, e⟩ := RQ.out; show _ = _; rw [e]; exact rgY_len z
                have IZ : Hid ((Try.prog.info? 44).map (·.size) = some Zy.toArray.size) := info44s.trans (by simp [ZL.out])
                have SZ : Hid (rg.toArray.size = Zy.toArray.size) := by show _ = _; simp [ZL.out, RGL.out]
                have ON : Hid (Zy.toArray.all (·.oneCell') = true) := all_oneCell_toArray Z1.out
                have G9 := Lib.hid L5.out.r9
                have L6 : Hid (LS w (w5.setRow a9 Zy.toArray) g sb hb v5 su ws Zy c5 p4 d5 K a7 a8 a9 V R f Zy) := by
                  exact L5.out.reg_set (setRow_at' _ _ _ _ _ G9.out) (setRowM _ _ _)
                have RQ6 : Hid (∃ y, y < 256 ∧ Zy = rgY y) := ⟨y, HY.out, ZE.out⟩
                go_wp2_with (refine wpList_store_row rfl 44 (.tmp 9) (.tmp 117) rfl a9 (#[Value.int .u8 (y : Int), Value.int .u8 0, Value.int .u8 0, Value.int .u8 0, Value.int .u8 0, Value.int .u8 0, Value.int .u8 0, Value.int .u8 0, Value.int .u8 0, Value.int .u8 0, Value.int .u8 0, Value.int .u8 0, Value.int .u8 0, Value.int .u8 0, Value.int .u8 0, Value.int .u8 0, Value.int .u8 0, Value.int .u8 0, Value.int .u8 0, Value.int .u8 0, Value.int .u8 0, Value.int .u8 0, Value.int .u8 0, Value.int .u8 0, Value.int .u8 0, Value.int .u8 0, Value.int .u8 0, Value.int .u8 0, Value.int .u8 0, Value.int .u8 0, Value.int .u8 0, Value.int .u8 0, Value.int .u8 0, Value.int .u8 0, Value.int .u8 0, Value.int .u8 0, Value.int .u8 0, Value.int .u8 0, Value.int .u8 0, Value.int .u8 0, Value.int .u8 0, Value.int .u8 0, Value.int .u8 0, Value.int .u8 0, Value.int .u8 0, Value.int .u8 0, Value.int .u8 0, Value.int .u8 0, Value.int .u8 0, Value.int .u8 0, Value.int .u8 0, Value.int .u8 0, Value.int .u8 0, Value.int .u8 0, Value.int .u8 0, Value.int .u8 0, Value.int .u8 0, Value.int .u8 0, Value.int .u8 0, Value.int .u8 0, Value.int .u8 0, Value.int .u8 0, Value.int .u8 0, Value.int .u8 0]) rfl rfl 44 rg.toArray G9.out (by rw [LIT.out]; exact IZ.out) (by rw [LIT.out]; exact SZ.out) (by rw [LIT.out]; exact ON.out) ?_)
                rw [LIT.out]
                clear g2 L5
                go_roundg (min l 100 - (j + 1))
                case measure => have := HR.out; omega
                case rel => exact ⟨j + 1, _, _, _, _, _, _, _, _, _, _, _, by omega, by go_num, L6.out, FQ.out, hc5a, by have := CB.out; omega, hp4, by have := CB.out; omega, RQ6.out⟩
            · have q3 : (kd == 3) = false := by simp [k3]
              by_cases k4 : kd = 4
              · have q4 : (kd == 4) = true := by simp [k4]
                clear k0 k2 k3 k4
                have f3 : v0.cell? ⟨q, 3, none⟩ = some (.int .i64 n') := by rw [cell_of_row _ _ _ _ _ _ O1.out.row]; rfl
                by_cases hneg : n' < 0
                · have HNEG := Lib.hid hneg
                  clear hneg
                  go_wp2_with fail
                  rw [← V0e.out, ← Qe.out]
                  clear V0e Qe e0 e1 e2 e3 e4
                  refine (failD_neg S1.out.lk.dk n' HNEG.out).mono ?_
                  rintro e w5 ⟨rfl, rfl⟩
                  clear f0 f1 f2 f3 O1
                  go_wp2_with fail
                  go_roundg (min l 100 - (j + 1))
                  case measure => have := HR.out; omega
                  case rel => exact ⟨j + 1, _, _, _, _, _, _, _, _, _, _, _, by omega, by go_num, S1.out, FQ.out, CB.out.1, by have := CB.out; omega, CB.out.2.2.2, by have := CB.out; omega, RQ.out⟩
                · obtain ⟨nn, rfl⟩ : ∃ nn : Nat, n' = nn := ⟨n'.toNat, by omega⟩
                  clear hneg
                  go_wp2_with fail
                  rw [← V0e.out, ← Qe.out]
                  clear V0e Qe e0 e1 e2 e3 e4
                  refine (failD_ok S1.out.lk.dk nn).mono ?_
                  rintro e w5 ⟨v5, rfl, hd⟩
                  have L5 := Lib.hid (S1.out.step hd)
                  clear f0 f1 f2 f3 O1 hd S1
                  go_wp2_with fail
                  go_roundg (min l 100 - (j + 1))
                  case measure => have := HR.out; omega
                  case rel => exact ⟨j + 1, _, _, _, _, _, _, _, _, _, _, _, by omega, by go_num, L5.out, FQ.out, CB.out.1, by have := CB.out; omega, .inr ⟨by omega, HN'.out.2⟩, by have := CB.out; omega, RQ.out⟩
              · have q4 : (kd == 4) = false := by simp [k4]
                clear k0 k2 k3 k4
                go_wp2_with fail
                rw [← V0e.out, ← Qe.out]
                clear V0e Qe e0 e1 e2 e3 e4 f0 f1 f2 O1
                go_roundg (min l 100 - (j + 1))
                case measure => have := HR.out; omega
                case rel => exact ⟨j + 1, _, _, _, _, _, _, _, _, _, _, _, by omega, by go_num, S1.out, FQ.out, CB.out.1, by have := CB.out; omega, CB.out.2.2.2, by have := CB.out; omega, RQ.out⟩
      · by_cases hj1 : j < l
        · have hj2 : ¬ j < 100 := by omega
          go_wp2_with fail
          have CRH : Hid (∀ j, j < l2 → 0 ≤ (kf j : Int) ∧ (kf j : Int) ≤ 255 ∧ ∃ b o, x2 = some ⟨b, o, none⟩ ∧ b < wr.heap.size ∧ ¬ Dt g sb hb wv b ∧ wr.cell? ⟨b, o + j, none⟩ = some (.int .u8 (kf j : Int))) := fun j hj => by
            obtain ⟨h1, b, o, h2, h3, h4⟩ := KX.out j hj
            refine ⟨by omega, by omega, b, o, h2, Nat.lt_of_lt_of_le h3 S.out.lk.b.size, fun e => ?_, (S.out.lk.b.cell (p := ⟨b, o + j, none⟩) h3).trans h4⟩
            rcases e with e | e | e | e
            · have := S.out.lk.og; omega
            · have := S.out.lk.os; omega
            · have := S.out.lk.oh; omega
            · have := S.out.lk.ov b e; omega
          refine (crashD S.out.lk.dk x2 l2 c2 (fun j => (kf j : Int)) hlk CRH.out).mono ?_
          rintro e w5 ⟨v5, rfl, hd⟩
          obtain ⟨su', hsu'⟩ : ∃ su', su' = keepS (kbit (fun j => (kf j : Int)) l2) su ws ws.length := ⟨_, rfl⟩
          have ME : Hid (∀ k, k < 4 → (su' k).getD 0 = f k ∨ (su' k).getD 0 ∈ R k) := fun k hk => by
            have h1 := FQ.out k hk
            rcases keepS_mem (kbit (fun j => (kf j : Int)) l2) su ws k ws.length with e | ⟨y, hy, e⟩
            · exact .inl (by rw [hsu', e, h1.1])
            · exact .inr (by rw [hsu', e, h1.2]; exact hy)
          rw [← hsu'] at hd
          have L5 : Hid (LS w w5 g sb hb v5 su' [] rg C (-1) false K a7 a8 a9 V R f rg) := S.out.step hd
          clear hd hsu' CRH S
          go_wp2_with fail
          go_loopg [14, 15, 16, 17, 18] 4 (fun r vk _ _ _ _ wr => ∃ i : Nat, r + i = 4 ∧ vk = .int .i64 i ∧ LS w wr g sb hb v5 su' [] rg C (-1) false K a7 a8 a9 V R f rg)
          case atStart => exact ⟨0, rfl, rfl, L5.out⟩
          case round =>
            clear L5
            obtain ⟨i, hr2, rfl, hl2⟩ := hrel
            have L5 := Lib.hid hl2
            have HR2 := Lib.hid hr2
            clear hl2 hr2
            by_cases hi4 : i < 4
            · have hi3 : (i : Int) ≤ 3 := by omega
              go_wp2_with fail
              refine (readD_ok L5.out.lk.dk i (by omega)).mono ?_
              rintro e w7 ⟨b7, rfl, m1, _, m3⟩
              have L7 := Lib.hid (L5.out.below m3)
              obtain ⟨Y, hY⟩ : ∃ Y, Y = (su' i).getD 0 := ⟨_, rfl⟩
              have M1 : Hid (w7.heap[b7]? = some (.cells (bcells (tx Y)) 5 (0, 0))) := by
                show _ = _
                rw [hY, ← padT_getD]; exact m1
              have MY : Hid (Y = f i ∨ Y ∈ R i) := by show _ ∨ _; rw [hY]; exact ME.out i hi4
              have C0 : Hid (∀ W : World, W.heap[b7]? = some (.cells (bcells (tx Y)) 5 (0, 0)) → W.cell? ⟨b7, 0, none⟩ = some (.int .u8 Y)) := fun W h => by
                rw [cell_of_row _ _ _ _ _ _ h]
                unfold bcells tx
                rw [List.getElem?_toArray, List.getElem?_map, List.getElem?_replicate, if_pos (by omega)]
                rfl
              clear hY m1 m3 L5
              obtain ⟨st, hst⟩ : ∃ st, st = strOfNums ((tx Y).map fun n : Nat => (n : Int)) := ⟨_, rfl⟩
              have ST : Hid (∀ (W : World) (b : Nat), W.heap[b]? = some (.cells (bcells (tx Y)) 5 (0, 0)) → (convert 32 9 (.slice (some ⟨b, 0, none⟩) 512 512)).run Try.prog W = .ok (.string st) W) := fun W b h => by rw [hst]; exact str_tx h
              clear hst
              have LB7 : Hid (b7 < w7.heap.size) := (Array.getElem?_eq_some_iff.1 M1.out).1
              go_wp2_with fail
              refine wp_region_held_drew (S := fun W => Below w7.heap.size w7 W) (by kernel_rfl) ((Below.refl _ _).drew) (fun hS => ?_)
              generalize w7.drew = wd at *
              refine' wpAnyH_take (i := 0) ?h1x0p ?hsx0p ?hfx0p ?hrx0p ?hQx0p (Or.inl ⟨?hwx0p, ?hyx0p⟩) hS ?restx0p
              case h1x0p => (simp only [List.getElem?_toArray, List.getElem?_cons_zero]; rfl)
              case hsx0p => kernel_rfl
              case hfx0p => kernel_rfl
              case hrx0p => kernel_rfl
              case hQx0p => exact fun _ _ _ h => h
              case hwx0p => rfl
              case hyx0p =>
                intro W hW
                go_simp
                try with_reducible rfl
              simp only [Act.put, List.setIfInBounds_toArray, List.set_cons_succ, List.set_cons_zero]
              refine' wpAnyH_take (i := 1) ?h1x1p ?hsx1p ?hfx1p ?hrx1p ?hQx1p (Or.inl ⟨?hwx1p, ?hyx1p⟩) hS ?restx1p
              case h1x1p => (simp only [List.getElem?_toArray, List.getElem?_cons_succ, List.getElem?_cons_zero]; rfl)
              case hsx1p => kernel_rfl
              case hfx1p => kernel_rfl
              case hrx1p => kernel_rfl
              case hQx1p => exact fun _ _ _ h => h
              case hwx1p => rfl
              case hyx1p =>
                intro W hW
                go_simp
                try with_reducible rfl
              simp only [Act.put, List.setIfInBounds_toArray, List.set_cons_succ, List.set_cons_zero]
              refine' wpAnyH_take (i := 2) ?h1x2p ?hsx2p ?hfx2p ?hrx2p ?hQx2p (Or.inl ⟨?hwx2p, ?hyx2p⟩) hS ?restx2p
              case h1x2p => (simp only [List.getElem?_toArray, List.getElem?_cons_succ, List.getElem?_cons_zero]; rfl)
              case hsx2p => kernel_rfl
              case hfx2p => kernel_rfl
              case hrx2p => kernel_rfl
              case hQx2p => exact fun _ _ _ h => h
              case hwx2p => rfl
              case hyx2p =>
                intro W hW
                go_simp
                try with_reducible rfl
              simp only [Act.put, List.setIfInBounds_toArray, List.set_cons_succ, List.set_cons_zero]
              refine' wpAnyH_take (i := 3) ?h1x3p ?hsx3p ?hfx3p ?hrx3p ?hQx3p (Or.inl ⟨?hwx3p, ?hyx3p⟩) hS ?restx3p
              case h1x3p => (simp only [List.getElem?_toArray, List.getElem?_cons_succ, List.getElem?_cons_zero]; rfl)
              case hsx3p => kernel_rfl
              case hfx3p => kernel_rfl
              case hrx3p => kernel_rfl
              case hQx3p => exact fun _ _ _ h => h
              case hwx3p => rfl
              case hyx3p =>
                intro W hW
                go_simp
                try with_reducible rfl
              simp only [Act.put, List.setIfInBounds_toArray, List.set_cons_succ, List.set_cons_zero]
              refine' wpAnyH_take (i := 4) ?h1x4p ?hsx4p ?hfx4p ?hrx4p ?hQx4p (Or.inl ⟨?hwx4p, ?hyx4p⟩) hS ?restx4p
              case h1x4p => (simp only [List.getElem?_toArray, List.getElem?_cons_succ, List.getElem?_cons_zero]; rfl)
              case hsx4p => kernel_rfl
              case hfx4p => kernel_rfl
              case hrx4p => kernel_rfl
              case hQx4p => exact fun _ _ _ h => h
              case hwx4p => rfl
              case hyx4p =>
                intro W hW
                go_simp
                try with_reducible rfl
              simp only [Act.put, List.setIfInBounds_toArray, List.set_cons_succ, List.set_cons_zero]
              refine' wpAnyH_take (i := 5) ?h1x5p ?hsx5p ?hfx5p ?hrx5p ?hQx5p (Or.inl ⟨?hwx5p, ?hyx5p⟩) hS ?restx5p
              case h1x5p => (simp only [List.getElem?_toArray, List.getElem?_cons_succ, List.getElem?_cons_zero]; rfl)
              case hsx5p => kernel_rfl
              case hfx5p => kernel_rfl
              case hrx5p => kernel_rfl
              case hQx5p => exact fun _ _ _ h => h
              case hwx5p => rfl
              case hyx5p =>
                intro W hW
                go_simp
                try with_reducible rfl
              simp only [Act.put, List.setIfInBounds_toArray, List.set_cons_succ, List.set_cons_zero]
              refine' wpAnyH_take (i := 6) ?h1x6p ?hsx6p ?hfx6p ?hrx6p ?hQx6p (Or.inl ⟨?hwx6p, ?hyx6p⟩) hS ?restx6p
              case h1x6p => (simp only [List.getElem?_toArray, List.getElem?_cons_succ, List.getElem?_cons_zero]; rfl)
              case hsx6p => kernel_rfl
              case hfx6p => kernel_rfl
              case hrx6p => kernel_rfl
              case hQx6p => exact fun _ _ _ h => h
              case hwx6p => rfl
              case hyx6p =>
                intro W hW
                go_simp
                try with_reducible rfl
              simp only [Act.put, List.setIfInBounds_toArray, List.set_cons_succ, List.set_cons_zero]
              refine' wpAnyH_take (i := 7) ?h1x7p ?hsx7p ?hfx7p ?hrx7p ?hQx7p (Or.inl ⟨?hwx7p, ?hyx7p⟩) hS ?restx7p
              case h1x7p => (simp only [List.getElem?_toArray, List.getElem?_cons_succ, List.getElem?_cons_zero]; rfl)
              case hsx7p => kernel_rfl
              case hfx7p => kernel_rfl
              case hrx7p => kernel_rfl
              case hQx7p => exact fun _ _ _ h => h
              case hwx7p => rfl
              case hyx7p =>
                intro W hW
                go_simp
                try with_reducible rfl
              simp only [Act.put, List.setIfInBounds_toArray, List.set_cons_succ, List.set_cons_zero]
              refine' wpAnyH_take (i := 8) ?h1x8p ?hsx8p ?hfx8p ?hrx8p ?hQx8p (Or.inl ⟨?hwx8p, ?hyx8p⟩) hS ?restx8p
              case h1x8p => (simp only [List.getElem?_toArray, List.getElem?_cons_succ, List.getElem?_cons_zero]; rfl)
              case hsx8p => kernel_rfl
              case hfx8p => kernel_rfl
              case hrx8p => kernel_rfl
              case hQx8p => exact fun _ _ _ h => h
              case hwx8p => rfl
              case hyx8p =>
                intro W hW
                go_simp
                try with_reducible rfl
              simp only [Act.put, List.setIfInBounds_toArray, List.set_cons_succ, List.set_cons_zero]
              refine' wpAnyH_take (i := 9) ?h1x9p ?hsx9p ?hfx9p ?hrx9p ?hQx9p (Or.inl ⟨?hwx9p, ?hyx9p⟩) hS ?restx9p
              case h1x9p => (simp only [List.getElem?_toArray, List.getElem?_cons_succ, List.getElem?_cons_zero]; rfl)
              case hsx9p => kernel_rfl
              case hfx9p => kernel_rfl
              case hrx9p => kernel_rfl
              case hQx9p => exact fun _ _ _ h => h
              case hwx9p => rfl
              case hyx9p =>
                intro W hW
                have tt := ST.out W b7 ((hW.block _ LB7.out).trans M1.out)
                go_simp
                try with_reducible rfl
              simp only [Act.put, List.setIfInBounds_toArray, List.set_cons_succ, List.set_cons_zero]
              refine' wpAnyH_take (i := 10) ?h1x10p ?hsx10p ?hfx10p ?hrx10p ?hQx10p (Or.inl ⟨?hwx10p, ?hyx10p⟩) hS ?restx10p
              case h1x10p => (simp only [List.getElem?_toArray, List.getElem?_cons_succ, List.getElem?_cons_zero]; rfl)
              case hsx10p => kernel_rfl
              case hfx10p => kernel_rfl
              case hrx10p => kernel_rfl
              case hQx10p => exact fun _ _ _ h => h
              case hwx10p => rfl
              case hyx10p =>
                intro W hW
                go_simp
                try with_reducible rfl
              simp only [Act.put, List.setIfInBounds_toArray, List.set_cons_succ, List.set_cons_zero]
              refine' wpAnyH_take (i := 11) ?h1x11p ?hsx11p ?hfx11p ?hrx11p ?hQx11p (Or.inl ⟨?hwx11p, ?hyx11p⟩) hS ?restx11p
              case h1x11p => (simp only [List.getElem?_toArray, List.getElem?_cons_succ, List.getElem?_cons_zero]; rfl)
              case hsx11p => kernel_rfl
              case hfx11p => kernel_rfl
              case hrx11p => kernel_rfl
              case hQx11p => exact fun _ _ _ h => h
              case hwx11p => rfl
              case hyx11p =>
                intro W hW
                go_simp
                try with_reducible rfl
              simp only [Act.put, List.setIfInBounds_toArray, List.set_cons_succ, List.set_cons_zero]
              refine' wpAnyH_take (i := 12) ?h1x12p ?hsx12p ?hfx12p ?hrx12p ?hQx12p (Or.inl ⟨?hwx12p, ?hyx12p⟩) hS ?restx12p
              case h1x12p => (simp only [List.getElem?_toArray, List.getElem?_cons_succ, List.getElem?_cons_zero]; rfl)
              case hsx12p => kernel_rfl
              case hfx12p => kernel_rfl
              case hrx12p => kernel_rfl
              case hQx12p => exact fun _ _ _ h => h
              case hwx12p => rfl
              case hyx12p =>
                intro W hW
                have tt := C0.out W ((hW.block _ LB7.out).trans M1.out)
                go_simp
                try with_reducible rfl
              simp only [Act.put, List.setIfInBounds_toArray, List.set_cons_succ, List.set_cons_zero]
              refine wpAnyH_ready (rs := [13]) (by kernel_rfl) (by simp) ?_
              refine' AllReadyH.cons ?hoc13p (fun K hK => ?stc13p) AllReadyH.nil
              case hoc13p => (simp only [List.getElem?_toArray, List.getElem?_cons_succ, List.getElem?_cons_zero]; rfl)
              go_simp
              refine (fullAny Y 0 512 (.inr ⟨by omega, rfl⟩) _).mono ?_
              rintro e w9 ⟨b9, rfl, m9, _, hb⟩
              go_wp2_with fail
              refine hK.out _ _ (hS.trans (hb.mono hS.size)) (fun hHeld => ?_)
              clear hK K
              try simp only [Act.put, List.setIfInBounds_toArray, List.set_cons_succ, List.set_cons_zero]
              have t9 := ST.out _ b9 m9
              clear m9
              clear hS hb
              have hS := hHeld
              clear hHeld
              refine wpAnyH_ready (rs := [14]) (by kernel_rfl) (by simp) ?_
              refine' AllReadyH.cons ?hoc14p (fun K hK => ?stc14p) AllReadyH.nil
              case hoc14p => (simp only [List.getElem?_toArray, List.getElem?_cons_succ, List.getElem?_cons_zero]; rfl)
              go_simp
              refine hK.out _ _ hS (fun hHeld => ?_)
              clear hK K hHeld t9
              try simp only [Act.put, List.setIfInBounds_toArray, List.set_cons_succ, List.set_cons_zero]
              refine' wpAnyH_take (i := 15) ?h1x15p ?hsx15p ?hfx15p ?hrx15p ?hQx15p (Or.inl ⟨?hwx15p, ?hyx15p⟩) hS ?restx15p
              case h1x15p => (simp only [List.getElem?_toArray, List.getElem?_cons_succ, List.getElem?_cons_zero]; rfl)
              case hsx15p => kernel_rfl
              case hfx15p => kernel_rfl
              case hrx15p => kernel_rfl
              case hQx15p => exact fun _ _ _ h => h
              case hwx15p => rfl
              case hyx15p =>
                intro W hW
                go_simp
                try with_reducible rfl
              simp only [Act.put, List.setIfInBounds_toArray, List.set_cons_succ, List.set_cons_zero]
              refine' wpAnyH_take (i := 16) ?h1x16p ?hsx16p ?hfx16p ?hrx16p ?hQx16p (Or.inl ⟨?hwx16p, ?hyx16p⟩) hS ?restx16p
              case h1x16p => (simp only [List.getElem?_toArray, List.getElem?_cons_succ, List.getElem?_cons_zero]; rfl)
              case hsx16p => kernel_rfl
              case hfx16p => kernel_rfl
              case hrx16p => kernel_rfl
              case hQx16p => exact fun _ _ _ h => h
              case hwx16p => rfl
              case hyx16p =>
                intro W hW
                go_simp
                try with_reducible rfl
              simp only [Act.put, List.setIfInBounds_toArray, List.set_cons_succ, List.set_cons_zero]
              refine wpAnyH_done (by kernel_rfl) ?_ _
              have L9 := Lib.hid (L7.out.below hS)
              have M9 : Hid (w9.heap[b7]? = some (.cells (bcells (tx Y)) 5 (0, 0))) := (hS.block _ LB7.out).trans M1.out
              clear hS L7 M1 LB7
              go_wp2_with fail
              have z1 := C0.out w9 M9.out
              have z2 : w9.cell? ⟨a7, i, none⟩ = some (.int .u8 (f i)) := by rw [cell_of_row _ _ _ _ _ _ L9.out.r7]; exact arr4_at f i hi4
              go_quiet (fail)
              have L10 : Hid (LS w (w9.drewN nq) g sb hb v5 su' [] rg C (-1) false K a7 a8 a9 V R f rg) := L9.out.below ⟨rfl, rfl, rfl, Nat.le_refl _, fun _ _ => rfl⟩
              have M10 : Hid ((w9.drewN nq).heap[b7]? = some (.cells (bcells (tx Y)) 5 (0, 0))) := M9.out
              generalize w9.drewN nq = w10 at *
              clear L9 M9 z1 z2
              have IF0 : Hid (((Y : Int) == (f i : Int)) = true ↔ (Y = f i ∨ Y ∈ (R i).take 0)) := by
                show _ ↔ _
                rw [List.take_zero]
                simp only [beq_iff_eq, List.not_mem_nil, or_false]
                constructor <;> intro h <;> omega
              go_wp2_with fail
              go_loopg [17, 18] (R i).length (fun r v17 v18 wr => ∃ (m : Nat) (fl : Bool), r + m = (R i).length ∧ v18 = .int .i64 m ∧ v17 = .bool fl ∧ (fl = true ↔ (Y = f i ∨ Y ∈ (R i).take m)) ∧ LS w wr g sb hb v5 su' [] rg C (-1) false K a7 a8 a9 V R f rg ∧ wr.heap[b7]? = some (.cells (bcells (tx Y)) 5 (0, 0)))
              case atStart => exact ⟨0, _, by omega, rfl, rfl, IF0.out, L10.out, M10.out⟩
              case round =>
                clear IF0 L10 M10
                obtain ⟨m, fl, hr3, rfl, rfl, hif, hl3, hm3⟩ := hrel
                have L10 := Lib.hid hl3
                have M10 := Lib.hid hm3
                have HR3 := Lib.hid hr3
                have IF := Lib.hid hif
                clear hl3 hm3 hr3 hif
                obtain ⟨xv, cv, hv, hnc, hcm⟩ := (L10.out.rw i hi4).form
                unfold maxLen at hcm
                have hcell : wr.cell? ⟨a8, i, none⟩ = some (.slice xv (R i).length cv) := by rw [cell_of_row _ _ _ _ _ _ L10.out.r8, arrV_at V i hi4, hv]
                by_cases hm : m < (R i).length
                · obtain ⟨z, hz⟩ : ∃ z, (R i)[m]? = some z := ⟨_, List.getElem?_eq_getElem hm⟩
                  have hrw := L10.out.rw i hi4
                  rw [hv] at hrw
                  obtain ⟨br, o2, rfl, hcy, _⟩ := Rw.cell hrw (bc_at hz)
                  have z1 := C0.out wr M10.out
                  have TK : Hid ((R i).take (m + 1) = (R i).take m ++ [z]) := by
                    obtain ⟨_, e⟩ := List.getElem?_eq_some_iff.1 hz
                    show _ = _
                    rw [List.take_succ_eq_append_getElem hm, e]
                  obtain ⟨n, hn⟩ : ∃ n, n = (R i).length := ⟨_, rfl⟩
                  rw [← hn] at hm hcell hnc
                  have HN := Lib.hid hn
                  have HV := Lib.hid hv
                  clear hz hrw hn hv
                  have L11 : Hid (∀ q, LS w (wr.drewN q) g sb hb v5 su' [] rg C (-1) false K a7 a8 a9 V R f rg) := fun q => L10.out.below ⟨rfl, rfl, rfl, Nat.le_refl _, fun _ _ => rfl⟩
                  have M11 : Hid (∀ q, (wr.drewN q).heap[b7]? = some (.cells (bcells (tx Y)) 5 (0, 0))) := fun _ => M10.out
                  cases fl with
                  | true =>
                    have IF1 : Hid (Y = f i ∨ Y ∈ (R i).take (m + 1)) := by
                      show _ ∨ _
                      rw [TK.out, List.mem_append]
                      have := IF.out.1 rfl
                      rcases this with e | e
                      · exact .inl e
                      · exact .inr (.inl e)
                    go_wp2_with fail
                    go_quiet (fail)
                    go_wp2_with fail
                    go_roundg ((R i).length - (m + 1))
                    case measure => have := HR3.out; have := HN.out; omega
                    case rel => exact ⟨m + 1, true, by have := HR3.out; have := HN.out; omega, by go_num, rfl, ⟨fun _ => IF1.out, fun _ => rfl⟩, L11.out _, M11.out _⟩
                  | false =>
                    have IF1 : Hid (((z : Int) == (Y : Int)) = true ↔ (Y = f i ∨ Y ∈ (R i).take (m + 1))) := by
                      show _ ↔ _
                      rw [TK.out]
                      have := IF.out
                      simp only [Bool.false_eq_true, false_iff, not_or] at this
                      simp only [List.mem_append, List.mem_singleton, beq_iff_eq]
                      refine ⟨fun e => .inr (.inr (by omega)), fun e => ?_⟩
                      rcases e with e | e | e
                      · exact absurd e this.1
                      · exact absurd e this.2
                      · omega
                    go_wp2_with fail
                    go_quiet (fail)
                    go_wp2_with fail
                    go_roundg ((R i).length - (m + 1))
                    case measure => have := HR3.out; have := HN.out; omega
                    case rel => exact ⟨m + 1, _, by have := HR3.out; have := HN.out; omega, by go_num, rfl, IF1.out, L11.out _, M11.out _⟩
                · have hm2 : m = (R i).length := by have := HR3.out; omega
                  have hfl : fl = true := IF.out.2 (by rw [hm2, List.take_length]; exact MY.out)
                  subst hfl
                  obtain ⟨n, hn⟩ : ∃ n, n = (R i).length := ⟨_, rfl⟩
                  rw [← hn] at hm hcell hnc
                  clear hm2 hv hn
                  go_wp2_with fail
                  go_roundg (4 - (i + 1))
                  case measure => have := HR2.out; omega
                  case rel => exact ⟨i + 1, by omega, by go_num, L10.out⟩
            · obtain ⟨yr, hyr, hrg⟩ := RQ.out
              have RGO : Hid (∀ v ∈ rg, v.oneCell' = true) := by show ∀ v ∈ rg, _; rw [hrg]; exact rgY_one yr
              have RGL : Hid (rg.length = 64) := by show _ = _; rw [hrg]; exact rgY_len yr
              have EQ : ∀ W, (Op.equalIn 10000 44 (.agg rg.toArray) (.agg rg.toArray)).run Try.prog W = .ok true W := fun W => by rw [hrg]; exact eq44 yr hyr W
              clear hyr hrg
              go_wp2_with fail
              refine (regD_ok L5.out.lk.dk RGO.out).mono ?_
              rintro e w8 ⟨rfl, hb8⟩
              have L8 := Lib.hid (L5.out.below hb8)
              clear hb8 L5
              obtain ⟨Z8, hZ8⟩ : ∃ Z, Z = rgY 0 := ⟨_, rfl⟩
              have hz : ∀ w, (zeroValue 44).run Try.prog w = .ok (.agg Z8.toArray) w := fun w => by rw [hZ8]; kernel_rfl
              have IZ : Hid ((Try.prog.info? 44).map (·.size) = some rg.toArray.size) := info44s.trans (by simp [RGL.out])
              have IR : Hid ((Try.prog.info? 44).map (·.size) = some rg.length) := info44s.trans (by simp [RGL.out])
              have SZ : Hid (Z8.toArray.size = rg.toArray.size) := by show _ = _; rw [hZ8]; simp [RGL.out, rgY_len]
              have ON : Hid (rg.toArray.all (·.oneCell') = true) := all_oneCell_toArray RGO.out
              clear hZ8
              have G8 : Hid ((w8.alloc (.cells Z8.toArray 44)).heap[w8.heap.size]? = some (.cells Z8.toArray 44 (0, 0))) := heap_alloc_new _ _
              have G9 : Hid ((w8.alloc (.cells rg.toArray 44)).heap[w8.heap.size]? = some (.cells rg.toArray 44 (0, 0))) := heap_alloc_new _ _
              have B9 : Hid (Below w8.heap.size w8 (w8.alloc (.cells rg.toArray 44))) := (Below.refl _ _).alloc (Nat.le_refl _) _
              go_wp2_with (refine wpList_store_row rfl 44 (.tmp 19) (.tmp 189) rfl w8.heap.size rg.toArray rfl rfl 44 Z8.toArray G8.out IZ.out SZ.out ON.out ?_)
              rw [alloc_setRow]
              have L9 := Lib.hid (L8.out.below B9.out)
              obtain ⟨q8, hq8⟩ : ∃ q, q = w8.heap.size := ⟨_, rfl⟩
              obtain ⟨w9, hw9⟩ : ∃ w9, w9 = w8.alloc (.cells rg.toArray 44) := ⟨_, rfl⟩
              rw [← hw9, ← hq8] at G9
              rw [← hw9] at L9
              rw [← hw9, ← hq8]
              clear hw9 hq8 G8 B9 hz
              refine (aliveD _).mono ?_
              rintro e w10 ⟨rfl, hb⟩
              have RA : Hid (w10.rangeAt q8 0 rg) := fun j v hv => by
                rw [cell_of_row _ _ _ _ _ _ ((hb.block q8 (Array.getElem?_eq_some_iff.1 G9.out).1).trans G9.out), Nat.zero_add, List.getElem?_toArray, hv]
              have L10 := Lib.hid (L9.out.below hb)
              have RB : Hid (w10.rangeAt a9 0 rg) := fun j v hv => by
                rw [cell_of_row _ _ _ _ _ _ L10.out.r9, Nat.zero_add, List.getElem?_toArray, hv]
              clear hb L8 L9 G9
              go_wp2_with (first | refine wpList_load_want (by rfl) 44 (.tmp 19) rfl q8 0 rfl rg _ RA.out Try.underlying44 rfl IR.out ?_ | refine wpList_load_want (by rfl) 44 (.tmp 9) rfl a9 0 rfl rg _ RB.out Try.underlying44 rfl IR.out ?_)
              go_ret
              exact ⟨rfl, L10.out.lk.b⟩
        · go_wp2_with fail
          have CRH : Hid (∀ j, j < l2 → 0 ≤ (kf j : Int) ∧ (kf j : Int) ≤ 255 ∧ ∃ b o, x2 = some ⟨b, o, none⟩ ∧ b < wr.heap.size ∧ ¬ Dt g sb hb wv b ∧ wr.cell? ⟨b, o + j, none⟩ = some (.int .u8 (kf j : Int))) := fun j hj => by
            obtain ⟨h1, b, o, h2, h3, h4⟩ := KX.out j hj
            refine ⟨by omega, by omega, b, o, h2, Nat.lt_of_lt_of_le h3 S.out.lk.b.size, fun e => ?_, (S.out.lk.b.cell (p := ⟨b, o + j, none⟩) h3).trans h4⟩
            rcases e with e | e | e | e
            · have := S.out.lk.og; omega
            · have := S.out.lk.os; omega
            · have := S.out.lk.oh; omega
            · have := S.out.lk.ov b e; omega
          refine (crashD S.out.lk.dk x2 l2 c2 (fun j => (kf j : Int)) hlk CRH.out).mono ?_
          rintro e w5 ⟨v5, rfl, hd⟩
          obtain ⟨su', hsu'⟩ : ∃ su', su' = keepS (kbit (fun j => (kf j : Int)) l2) su ws ws.length := ⟨_, rfl⟩
          have ME : Hid (∀ k, k < 4 → (su' k).getD 0 = f k ∨ (su' k).getD 0 ∈ R k) := fun k hk => by
            have h1 := FQ.out k hk
            rcases keepS_mem (kbit (fun j => (kf j : Int)) l2) su ws k ws.length with e | ⟨y, hy, e⟩
            · exact .inl (by rw [hsu', e, h1.1])
            · exact .inr (by rw [hsu', e, h1.2]; exact hy)
          rw [← hsu'] at hd
          have L5 : Hid (LS w w5 g sb hb v5 su' [] rg C (-1) false K a7 a8 a9 V R f rg) := S.out.step hd
          clear hd hsu' CRH S
          go_wp2_with fail
          go_loopg [14, 15, 16, 17, 18] 4 (fun r vk _ _ _ _ wr => ∃ i : Nat, r + i = 4 ∧ vk = .int .i64 i ∧ LS w wr g sb hb v5 su' [] rg C (-1) false K a7 a8 a9 V R f rg)
          case atStart => exact ⟨0, rfl, rfl, L5.out⟩
          case round =>
            clear L5
            obtain ⟨i, hr2, rfl, hl2⟩ := hrel
            have L5 := Lib.hid hl2
            have HR2 := Lib.hid hr2
            clear hl2 hr2
            by_cases hi4 : i < 4
            · have hi3 : (i : Int) ≤ 3 := by omega
              go_wp2_with fail
              refine (readD_ok L5.out.lk.dk i (by omega)).mono ?_
              rintro e w7 ⟨b7, rfl, m1, _, m3⟩
              have L7 := Lib.hid (L5.out.below m3)
              obtain ⟨Y, hY⟩ : ∃ Y, Y = (su' i).getD 0 := ⟨_, rfl⟩
              have M1 : Hid (w7.heap[b7]? = some (.cells (bcells (tx Y)) 5 (0, 0))) := by
                show _ = _
                rw [hY, ← padT_getD]; exact m1
              have MY : Hid (Y = f i ∨ Y ∈ R i) := by show _ ∨ _; rw [hY]; exact ME.out i hi4
              have C0 : Hid (∀ W : World, W.heap[b7]? = some (.cells (bcells (tx Y)) 5 (0, 0)) → W.cell? ⟨b7, 0, none⟩ = some (.int .u8 Y)) := fun W h => by
                rw [cell_of_row _ _ _ _ _ _ h]
                unfold bcells tx
                rw [List.getElem?_toArray, List.getElem?_map, List.getElem?_replicate, if_pos (by omega)]
                rfl
              clear hY m1 m3 L5
              obtain ⟨st, hst⟩ : ∃ st, st = strOfNums ((tx Y).map fun n : Nat => (n : Int)) := ⟨_, rfl⟩
              have ST : Hid (∀ (W : World) (b : Nat), W.heap[b]? = some (.cells (bcells (tx Y)) 5 (0, 0)) → (convert 32 9 (.slice (some ⟨b, 0, none⟩) 512 512)).run Try.prog W = .ok (.string st) W) := fun W b h => by rw [hst]; exact str_tx h
              clear hst
              have LB7 : Hid (b7 < w7.heap.size) := (Array.getElem?_eq_some_iff.1 M1.out).1
              go_wp2_with fail
              refine wp_region_held_drew (S := fun W => Below w7.heap.size w7 W) (by kernel_rfl) ((Below.refl _ _).drew) (fun hS => ?_)
              generalize w7.drew = wd at *
              refine' wpAnyH_take (i := 0) ?h1x0n ?hsx0n ?hfx0n ?hrx0n ?hQx0n (Or.inl ⟨?hwx0n, ?hyx0n⟩) hS ?restx0n
              case h1x0n => (simp only [List.getElem?_toArray, List.getElem?_cons_zero]; rfl)
              case hsx0n => kernel_rfl
              case hfx0n => kernel_rfl
              case hrx0n => kernel_rfl
              case hQx0n => exact fun _ _ _ h => h
              case hwx0n => rfl
              case hyx0n =>
                intro W hW
                go_simp
                try with_reducible rfl
              simp only [Act.put, List.setIfInBounds_toArray, List.set_cons_succ, List.set_cons_zero]
              refine' wpAnyH_take (i := 1) ?h1x1n ?hsx1n ?hfx1n ?hrx1n ?hQx1n (Or.inl ⟨?hwx1n, ?hyx1n⟩) hS ?restx1n
              case h1x1n => (simp only [List.getElem?_toArray, List.getElem?_cons_succ, List.getElem?_cons_zero]; rfl)
              case hsx1n => kernel_rfl
              case hfx1n => kernel_rfl
              case hrx1n => kernel_rfl
              case hQx1n => exact fun _ _ _ h => h
              case hwx1n => rfl
              case hyx1n =>
                intro W hW
                go_simp
                try with_reducible rfl
              simp only [Act.put, List.setIfInBounds_toArray, List.set_cons_succ, List.set_cons_zero]
              refine' wpAnyH_take (i := 2) ?h1x2n ?hsx2n ?hfx2n ?hrx2n ?hQx2n (Or.inl ⟨?hwx2n, ?hyx2n⟩) hS ?restx2n
              case h1x2n => (simp only [List.getElem?_toArray, List.getElem?_cons_succ, List.getElem?_cons_zero]; rfl)
              case hsx2n => kernel_rfl
              case hfx2n => kernel_rfl
              case hrx2n => kernel_rfl
              case hQx2n => exact fun _ _ _ h => h
              case hwx2n => rfl
              case hyx2n =>
                intro W hW
                go_simp
                try with_reducible rfl
              simp only [Act.put, List.setIfInBounds_toArray, List.set_cons_succ, List.set_cons_zero]
              refine' wpAnyH_take (i := 3) ?h1x3n ?hsx3n ?hfx3n ?hrx3n ?hQx3n (Or.inl ⟨?hwx3n, ?hyx3n⟩) hS ?restx3n
              case h1x3n => (simp only [List.getElem?_toArray, List.getElem?_cons_succ, List.getElem?_cons_zero]; rfl)
              case hsx3n => kernel_rfl
              case hfx3n => kernel_rfl
              case hrx3n => kernel_rfl
              case hQx3n => exact fun _ _ _ h => h
              case hwx3n => rfl
              case hyx3n =>
                intro W hW
                go_simp
                try with_reducible rfl
              simp only [Act.put, List.setIfInBounds_toArray, List.set_cons_succ, List.set_cons_zero]
              refine' wpAnyH_take (i := 4) ?h1x4n ?hsx4n ?hfx4n ?hrx4n ?hQx4n (Or.inl ⟨?hwx4n, ?hyx4n⟩) hS ?restx4n
              case h1x4n => (simp only [List.getElem?_toArray, List.getElem?_cons_succ, List.getElem?_cons_zero]; rfl)
              case hsx4n => kernel_rfl
              case hfx4n => kernel_rfl
              case hrx4n => kernel_rfl
              case hQx4n => exact fun _ _ _ h => h
              case hwx4n => rfl
              case hyx4n =>
                intro W hW
                go_simp
                try with_reducible rfl
              simp only [Act.put, List.setIfInBounds_toArray, List.set_cons_succ, List.set_cons_zero]
              refine' wpAnyH_take (i := 5) ?h1x5n ?hsx5n ?hfx5n ?hrx5n ?hQx5n (Or.inl ⟨?hwx5n, ?hyx5n⟩) hS ?restx5n
              case h1x5n => (simp only [List.getElem?_toArray, List.getElem?_cons_succ, List.getElem?_cons_zero]; rfl)
              case hsx5n => kernel_rfl
              case hfx5n => kernel_rfl
              case hrx5n => kernel_rfl
              case hQx5n => exact fun _ _ _ h => h
              case hwx5n => rfl
              case hyx5n =>
                intro W hW
                go_simp
                try with_reducible rfl
              simp only [Act.put, List.setIfInBounds_toArray, List.set_cons_succ, List.set_cons_zero]
              refine' wpAnyH_take (i := 6) ?h1x6n ?hsx6n ?hfx6n ?hrx6n ?hQx6n (Or.inl ⟨?hwx6n, ?hyx6n⟩) hS ?restx6n
              case h1x6n => (simp only [List.getElem?_toArray, List.getElem?_cons_succ, List.getElem?_cons_zero]; rfl)
              case hsx6n => kernel_rfl
              case hfx6n => kernel_rfl
              case hrx6n => kernel_rfl
              case hQx6n => exact fun _ _ _ h => h
              case hwx6n => rfl
              case hyx6n =>
                intro W hW
                go_simp
                try with_reducible rfl
              simp only [Act.put, List.setIfInBounds_toArray, List.set_cons_succ, List.set_cons_zero]
              refine' wpAnyH_take (i := 7) ?h1x7n ?hsx7n ?hfx7n ?hrx7n ?hQx7n (Or.inl ⟨?hwx7n, ?hyx7n⟩) hS ?restx7n
              case h1x7n => (simp only [List.getElem?_toArray, List.getElem?_cons_succ, List.getElem?_cons_zero]; rfl)
              case hsx7n => kernel_rfl
              case hfx7n => kernel_rfl
              case hrx7n => kernel_rfl
              case hQx7n => exact fun _ _ _ h => h
              case hwx7n => rfl
              case hyx7n =>
                intro W hW
                go_simp
                try with_reducible rfl
              simp only [Act.put, List.setIfInBounds_toArray, List.set_cons_succ, List.set_cons_zero]
              refine' wpAnyH_take (i := 8) ?h1x8n ?hsx8n ?hfx8n ?hrx8n ?hQx8n (Or.inl ⟨?hwx8n, ?hyx8n⟩) hS ?restx8n
              case h1x8n => (simp only [List.getElem?_toArray, List.getElem?_cons_succ, List.getElem?_cons_zero]; rfl)
              case hsx8n => kernel_rfl
              case hfx8n => kernel_rfl
              case hrx8n => kernel_rfl
              case hQx8n => exact fun _ _ _ h => h
              case hwx8n => rfl
              case hyx8n =>
                intro W hW
                go_simp
                try with_reducible rfl
              simp only [Act.put, List.setIfInBounds_toArray, List.set_cons_succ, List.set_cons_zero]
              refine' wpAnyH_take (i := 9) ?h1x9n ?hsx9n ?hfx9n ?hrx9n ?hQx9n (Or.inl ⟨?hwx9n, ?hyx9n⟩) hS ?restx9n
              case h1x9n => (simp only [List.getElem?_toArray, List.getElem?_cons_succ, List.getElem?_cons_zero]; rfl)
              case hsx9n => kernel_rfl
              case hfx9n => kernel_rfl
              case hrx9n => kernel_rfl
              case hQx9n => exact fun _ _ _ h => h
              case hwx9n => rfl
              case hyx9n =>
                intro W hW
                have tt := ST.out W b7 ((hW.block _ LB7.out).trans M1.out)
                go_simp
                try with_reducible rfl
              simp only [Act.put, List.setIfInBounds_toArray, List.set_cons_succ, List.set_cons_zero]
              refine' wpAnyH_take (i := 10) ?h1x10n ?hsx10n ?hfx10n ?hrx10n ?hQx10n (Or.inl ⟨?hwx10n, ?hyx10n⟩) hS ?restx10n
              case h1x10n => (simp only [List.getElem?_toArray, List.getElem?_cons_succ, List.getElem?_cons_zero]; rfl)
              case hsx10n => kernel_rfl
              case hfx10n => kernel_rfl
              case hrx10n => kernel_rfl
              case hQx10n => exact fun _ _ _ h => h
              case hwx10n => rfl
              case hyx10n =>
                intro W hW
                go_simp
                try with_reducible rfl
              simp only [Act.put, List.setIfInBounds_toArray, List.set_cons_succ, List.set_cons_zero]
              refine' wpAnyH_take (i := 11) ?h1x11n ?hsx11n ?hfx11n ?hrx11n ?hQx11n (Or.inl ⟨?hwx11n, ?hyx11n⟩) hS ?restx11n
              case h1x11n => (simp only [List.getElem?_toArray, List.getElem?_cons_succ, List.getElem?_cons_zero]; rfl)
              case hsx11n => kernel_rfl
              case hfx11n => kernel_rfl
              case hrx11n => kernel_rfl
              case hQx11n => exact fun _ _ _ h => h
              case hwx11n => rfl
              case hyx11n =>
                intro W hW
                go_simp
                try with_reducible rfl
              simp only [Act.put, List.setIfInBounds_toArray, List.set_cons_succ, List.set_cons_zero]
              refine' wpAnyH_take (i := 12) ?h1x12n ?hsx12n ?hfx12n ?hrx12n ?hQx12n (Or.inl ⟨?hwx12n, ?hyx12n⟩) hS ?restx12n
              case h1x12n => (simp only [List.getElem?_toArray, List.getElem?_cons_succ, List.getElem?_cons_zero]; rfl)
              case hsx12n => kernel_rfl
              case hfx12n => kernel_rfl
              case hrx12n => kernel_rfl
              case hQx12n => exact fun _ _ _ h => h
              case hwx12n => rfl
              case hyx12n =>
                intro W hW
                have tt := C0.out W ((hW.block _ LB7.out).trans M1.out)
                go_simp
                try with_reducible rfl
              simp only [Act.put, List.setIfInBounds_toArray, List.set_cons_succ, List.set_cons_zero]
              refine wpAnyH_ready (rs := [13]) (by kernel_rfl) (by simp) ?_
              refine' AllReadyH.cons ?hoc13n (fun K hK => ?stc13n) AllReadyH.nil
              case hoc13n => (simp only [List.getElem?_toArray, List.getElem?_cons_succ, List.getElem?_cons_zero]; rfl)
              go_simp
              refine (fullAny Y 0 512 (.inr ⟨by omega, rfl⟩) _).mono ?_
              rintro e w9 ⟨b9, rfl, m9, _, hb⟩
              go_wp2_with fail
              refine hK.out _ _ (hS.trans (hb.mono hS.size)) (fun hHeld => ?_)
              clear hK K
              try simp only [Act.put, List.setIfInBounds_toArray, List.set_cons_succ, List.set_cons_zero]
              have t9 := ST.out _ b9 m9
              clear m9
              clear hS hb
              have hS := hHeld
              clear hHeld
              refine wpAnyH_ready (rs := [14]) (by kernel_rfl) (by simp) ?_
              refine' AllReadyH.cons ?hoc14n (fun K hK => ?stc14n) AllReadyH.nil
              case hoc14n => (simp only [List.getElem?_toArray, List.getElem?_cons_succ, List.getElem?_cons_zero]; rfl)
              go_simp
              refine hK.out _ _ hS (fun hHeld => ?_)
              clear hK K hHeld t9
              try simp only [Act.put, List.setIfInBounds_toArray, List.set_cons_succ, List.set_cons_zero]
              refine' wpAnyH_take (i := 15) ?h1x15n ?hsx15n ?hfx15n ?hrx15n ?hQx15n (Or.inl ⟨?hwx15n, ?hyx15n⟩) hS ?restx15n
              case h1x15n => (simp only [List.getElem?_toArray, List.getElem?_cons_succ, List.getElem?_cons_zero]; rfl)
              case hsx15n => kernel_rfl
              case hfx15n => kernel_rfl
              case hrx15n => kernel_rfl
              case hQx15n => exact fun _ _ _ h => h
              case hwx15n => rfl
              case hyx15n =>
                intro W hW
                go_simp
                try with_reducible rfl
              simp only [Act.put, List.setIfInBounds_toArray, List.set_cons_succ, List.set_cons_zero]
              refine' wpAnyH_take (i := 16) ?h1x16n ?hsx16n ?hfx16n ?hrx16n ?hQx16n (Or.inl ⟨?hwx16n, ?hyx16n⟩) hS ?restx16n
              case h1x16n => (simp only [List.getElem?_toArray, List.getElem?_cons_succ, List.getElem?_cons_zero]; rfl)
              case hsx16n => kernel_rfl
              case hfx16n => kernel_rfl
              case hrx16n => kernel_rfl
              case hQx16n => exact fun _ _ _ h => h
              case hwx16n => rfl
              case hyx16n =>
                intro W hW
                go_simp
                try with_reducible rfl
              simp only [Act.put, List.setIfInBounds_toArray, List.set_cons_succ, List.set_cons_zero]
              refine wpAnyH_done (by kernel_rfl) ?_ _
              have L9 := Lib.hid (L7.out.below hS)
              have M9 : Hid (w9.heap[b7]? = some (.cells (bcells (tx Y)) 5 (0, 0))) := (hS.block _ LB7.out).trans M1.out
              clear hS L7 M1 LB7
              go_wp2_with fail
              have z1 := C0.out w9 M9.out
              have z2 : w9.cell? ⟨a7, i, none⟩ = some (.int .u8 (f i)) := by rw [cell_of_row _ _ _ _ _ _ L9.out.r7]; exact arr4_at f i hi4
              go_quiet (fail)
              have L10 : Hid (LS w (w9.drewN nq) g sb hb v5 su' [] rg C (-1) false K a7 a8 a9 V R f rg) := L9.out.below ⟨rfl, rfl, rfl, Nat.le_refl _, fun _ _ => rfl⟩
              have M10 : Hid ((w9.drewN nq).heap[b7]? = some (.cells (bcells (tx Y)) 5 (0, 0))) := M9.out
              generalize w9.drewN nq = w10 at *
              clear L9 M9 z1 z2
              have IF0 : Hid (((Y : Int) == (f i : Int)) = true ↔ (Y = f i ∨ Y ∈ (R i).take 0)) := by
                show _ ↔ _
                rw [List.take_zero]
                simp only [beq_iff_eq, List.not_mem_nil, or_false]
                constructor <;> intro h <;> omega
              go_wp2_with fail
              go_loopg [17, 18] (R i).length (fun r v17 v18 wr => ∃ (m : Nat) (fl : Bool), r + m = (R i).length ∧ v18 = .int .i64 m ∧ v17 = .bool fl ∧ (fl = true ↔ (Y = f i ∨ Y ∈ (R i).take m)) ∧ LS w wr g sb hb v5 su' [] rg C (-1) false K a7 a8 a9 V R f rg ∧ wr.heap[b7]? = some (.cells (bcells (tx Y)) 5 (0, 0)))
              case atStart => exact ⟨0, _, by omega, rfl, rfl, IF0.out, L10.out, M10.out⟩
              case round =>
                clear IF0 L10 M10
                obtain ⟨m, fl, hr3, rfl, rfl, hif, hl3, hm3⟩ := hrel
                have L10 := Lib.hid hl3
                have M10 := Lib.hid hm3
                have HR3 := Lib.hid hr3
                have IF := Lib.hid hif
                clear hl3 hm3 hr3 hif
                obtain ⟨xv, cv, hv, hnc, hcm⟩ := (L10.out.rw i hi4).form
                unfold maxLen at hcm
                have hcell : wr.cell? ⟨a8, i, none⟩ = some (.slice xv (R i).length cv) := by rw [cell_of_row _ _ _ _ _ _ L10.out.r8, arrV_at V i hi4, hv]
                by_cases hm : m < (R i).length
                · obtain ⟨z, hz⟩ : ∃ z, (R i)[m]? = some z := ⟨_, List.getElem?_eq_getElem hm⟩
                  have hrw := L10.out.rw i hi4
                  rw [hv] at hrw
                  obtain ⟨br, o2, rfl, hcy, _⟩ := Rw.cell hrw (bc_at hz)
                  have z1 := C0.out wr M10.out
                  have TK : Hid ((R i).take (m + 1) = (R i).take m ++ [z]) := by
                    obtain ⟨_, e⟩ := List.getElem?_eq_some_iff.1 hz
                    show _ = _
                    rw [List.take_succ_eq_append_getElem hm, e]
                  obtain ⟨n, hn⟩ : ∃ n, n = (R i).length := ⟨_, rfl⟩
                  rw [← hn] at hm hcell hnc
                  have HN := Lib.hid hn
                  have HV := Lib.hid hv
                  clear hz hrw hn hv
                  have L11 : Hid (∀ q, LS w (wr.drewN q) g sb hb v5 su' [] rg C (-1) false K a7 a8 a9 V R f rg) := fun q => L10.out.below ⟨rfl, rfl, rfl, Nat.le_refl _, fun _ _ => rfl⟩
                  have M11 : Hid (∀ q, (wr.drewN q).heap[b7]? = some (.cells (bcells (tx Y)) 5 (0, 0))) := fun _ => M10.out
                  cases fl with
                  | true =>
                    have IF1 : Hid (Y = f i ∨ Y ∈ (R i).take (m + 1)) := by
                      show _ ∨ _
                      rw [TK.out, List.mem_append]
                      have := IF.out.1 rfl
                      rcases this with e | e
                      · exact .inl e
                      · exact .inr (.inl e)
                    go_wp2_with fail
                    go_quiet (fail)
                    go_wp2_with fail
                    go_roundg ((R i).length - (m + 1))
                    case measure => have := HR3.out; have := HN.out; omega
                    case rel => exact ⟨m + 1, true, by have := HR3.out; have := HN.out; omega, by go_num, rfl, ⟨fun _ => IF1.out, fun _ => rfl⟩, L11.out _, M11.out _⟩
                  | false =>
                    have IF1 : Hid (((z : Int) == (Y : Int)) = true ↔ (Y = f i ∨ Y ∈ (R i).take (m + 1))) := by
                      show _ ↔ _
                      rw [TK.out]
                      have := IF.out
                      simp only [Bool.false_eq_true, false_iff, not_or] at this
                      simp only [List.mem_append, List.mem_singleton, beq_iff_eq]
                      refine ⟨fun e => .inr (.inr (by omega)), fun e => ?_⟩
                      rcases e with e | e | e
                      · exact absurd e this.1
                      · exact absurd e this.2
                      · omega
                    go_wp2_with fail
                    go_quiet (fail)
                    go_wp2_with fail
                    go_roundg ((R i).length - (m + 1))
                    case measure => have := HR3.out; have := HN.out; omega
                    case rel => exact ⟨m + 1, _, by have := HR3.out; have := HN.out; omega, by go_num, rfl, IF1.out, L11.out _, M11.out _⟩
                · have hm2 : m = (R i).length := by have := HR3.out; omega
                  have hfl : fl = true := IF.out.2 (by rw [hm2, List.take_length]; exact MY.out)
                  subst hfl
                  obtain ⟨n, hn⟩ : ∃ n, n = (R i).length := ⟨_, rfl⟩
                  rw [← hn] at hm hcell hnc
                  clear hm2 hv hn
                  go_wp2_with fail
                  go_roundg (4 - (i + 1))
                  case measure => have := HR2.out; omega
                  case rel => exact ⟨i + 1, by omega, by go_num, L10.out⟩
            · obtain ⟨yr, hyr, hrg⟩ := RQ.out
              have RGO : Hid (∀ v ∈ rg, v.oneCell' = true) := by show ∀ v ∈ rg, _; rw [hrg]; exact rgY_one yr
              have RGL : Hid (rg.length = 64) := by show _ = _; rw [hrg]; exact rgY_len yr
              have EQ : ∀ W, (Op.equalIn 10000 44 (.agg rg.toArray) (.agg rg.toArray)).run Try.prog W = .ok true W := fun W => by rw [hrg]; exact eq44 yr hyr W
              clear hyr hrg
              go_wp2_with fail
              refine (regD_ok L5.out.lk.dk RGO.out).mono ?_
              rintro e w8 ⟨rfl, hb8⟩
              have L8 := Lib.hid (L5.out.below hb8)
              clear hb8 L5
              obtain ⟨Z8, hZ8⟩ : ∃ Z, Z = rgY 0 := ⟨_, rfl⟩
              have hz : ∀ w, (zeroValue 44).run Try.prog w = .ok (.agg Z8.toArray) w := fun w => by rw [hZ8]; kernel_rfl
              have IZ : Hid ((Try.prog.info? 44).map (·.size) = some rg.toArray.size) := info44s.trans (by simp [RGL.out])
              have IR : Hid ((Try.prog.info? 44).map (·.size) = some rg.length) := info44s.trans (by simp [RGL.out])
              have SZ : Hid (Z8.toArray.size = rg.toArray.size) := by show _ = _; rw [hZ8]; simp [RGL.out, rgY_len]
              have ON : Hid (rg.toArray.all (·.oneCell') = true) := all_oneCell_toArray RGO.out
              clear hZ8
              have G8 : Hid ((w8.alloc (.cells Z8.toArray 44)).heap[w8.heap.size]? = some (.cells Z8.toArray 44 (0, 0))) := heap_alloc_new _ _
              have G9 : Hid ((w8.alloc (.cells rg.toArray 44)).heap[w8.heap.size]? = some (.cells rg.toArray 44 (0, 0))) := heap_alloc_new _ _
              have B9 : Hid (Below w8.heap.size w8 (w8.alloc (.cells rg.toArray 44))) := (Below.refl _ _).alloc (Nat.le_refl _) _
              go_wp2_with (refine wpList_store_row rfl 44 (.tmp 19) (.tmp 189) rfl w8.heap.size rg.toArray rfl rfl 44 Z8.toArray G8.out IZ.out SZ.out ON.out ?_)
              rw [alloc_setRow]
              have L9 := Lib.hid (L8.out.below B9.out)
              obtain ⟨q8, hq8⟩ : ∃ q, q = w8.heap.size := ⟨_, rfl⟩
              obtain ⟨w9, hw9⟩ : ∃ w9, w9 = w8.alloc (.cells rg.toArray 44) := ⟨_, rfl⟩
              rw [← hw9, ← hq8] at G9
              rw [← hw9] at L9
              rw [← hw9, ← hq8]
              clear hw9 hq8 G8 B9 hz
              refine (aliveD _).mono ?_
              rintro e w10 ⟨rfl, hb⟩
              have RA : Hid (w10.rangeAt q8 0 rg) := fun j v hv => by
                rw [cell_of_row _ _ _ _ _ _ ((hb.block q8 (Array.getElem?_eq_some_iff.1 G9.out).1).trans G9.out), Nat.zero_add, List.getElem?_toArray, hv]
              have L10 := Lib.hid (L9.out.below hb)
              have RB : Hid (w10.rangeAt a9 0 rg) := fun j v hv => by
                rw [cell_of_row _ _ _ _ _ _ L10.out.r9, Nat.zero_add, List.getElem?_toArray, hv]
              clear hb L8 L9 G9
              go_wp2_with (first | refine wpList_load_want (by rfl) 44 (.tmp 19) rfl q8 0 rfl rg _ RA.out Try.underlying44 rfl IR.out ?_ | refine wpList_load_want (by rfl) 44 (.tmp 9) rfl a9 0 rfl rg _ RB.out Try.underlying44 rfl IR.out ?_)
              go_ret
              exact ⟨rfl, L10.out.lk.b⟩
  · have h101 : (100 : Int) < (l2 : Int) := by omega
    go_enter Try.func5, Try.ntmps5
    go_wp2_with fail
    refine (newD (P := NR V0) 4 (by omega) (by omega) w).mono ?_
    rintro e w1 ⟨g, sb, hb, rfl, _, _, _, _, hbl⟩
    have B1 := Lib.hid hbl
    clear hbl
    go_wp2_with fail
    refine (aliveD _).mono ?_
    rintro e w2 ⟨rfl, hb⟩
    have B2 := Lib.hid (B1.out.trans (hb.mono B1.out.size))
    clear hb
    go_wp2_with fail
    go_ret
    exact ⟨rfl, B2.out⟩
end diskLasts
end Go.Proofs.Ytklhnibmpdaioaa.pv
