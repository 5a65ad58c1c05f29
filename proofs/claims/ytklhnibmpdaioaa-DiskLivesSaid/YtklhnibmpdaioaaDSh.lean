/-
  For every slice of ops the law DiskShows of package casematelaw11 returns true, and the argument read afterwards as before: what is read is what was written, or turned, last; what was turned is sure. Condition: none.
-/
import Derived.Test.YtklhnibmpdaioaaDV
import Derived.Test.YtklhnibmpdaioaaDDn
namespace Go.Proofs.Ytklhnibmpdaioaa
open Go.ChangeShapes Go.WideShapes Go.ChangeAt Go.RowKit
section
variable {S : Nat → Prop} {w0 w w' : World} {g N sb hb : Nat} {wv : Value} {su : Nat → Option Nat} {ws : List (Nat × Nat)} {rg : List Value} {c p : Int} {d : Bool} {K : Nat}
theorem TX.apart {v : Value} {y : Nat} (h : TX w v (tx y)) (m : Mods S w w') (hS : ∀ b y, w.heap[b]? = some (.cells (bcells (tx y)) 5 (0, 0)) → ¬ S b) : TX w' v (tx y) := by
  obtain ⟨b, rfl, h1⟩ := h
  exact ⟨b, rfl, (m.block b (Array.getElem?_eq_some_iff.1 h1).1 (hS b y h1)).trans h1⟩
theorem SM.apart {f : Lit → Option Value} {su : Nat → Option Nat} (h : SM w f su) (m : Mods S w w') (hS : ∀ b y, w.heap[b]? = some (.cells (bcells (tx y)) 5 (0, 0)) → ¬ S b) : SM w' f su := fun s => by
  rcases h s with h1 | ⟨y, v, h1, h2, h3, h4⟩
  · exact .inl h1
  · exact .inr ⟨y, v, h1, h2, h3.apart m hS, h4⟩
theorem WS.apart (m : Mods S w w') (hS : ∀ b y, w.heap[b]? = some (.cells (bcells (tx y)) 5 (0, 0)) → ¬ S b) : ∀ {ws : List (Nat × Nat)} {vs : List Value}, WS w ws vs → WS w' ws vs
  | [], _, h => h
  | (s, y) :: r, _, h => by
    obtain ⟨v, vs', e, h1, h2, h3, h4⟩ := h
    exact ⟨v, vs', e, h1, h2.apart m hS, h3, WS.apart m hS h4⟩
/-- Blocks that are none of a disk's. -/
def Off (w : World) (b : Nat) : Prop := ∃ cs t fr, w.heap[b]? = some (.cells cs t fr) ∧ t ≠ 51 ∧ t ≠ 101 ∧ (t ≠ 5 ∨ cs.size ≠ 512)
theorem Off.tx {b : Nat} (h : Off w b) (y : Nat) : w.heap[b]? ≠ some (.cells (bcells (tx y)) 5 (0, 0)) := by
  obtain ⟨cs, t, fr, h1, _, _, h4⟩ := h
  intro e
  rw [h1] at e
  injection e with e
  injection e with e1 e2 _
  rcases h4 with h4 | h4
  · exact h4 e2
  · exact h4 (by rw [e1, bcells_size, tx_len])
theorem DK.off (h : DK w g N sb hb wv su ws rg c p d K) {b : Nat} (ho : Off w b) : ¬ Dt g sb hb wv b := by
  obtain ⟨cs, t, fr, h1, h2, h3, _⟩ := ho
  obtain ⟨n1, f1, m1, _⟩ := h.sure
  obtain ⟨n2, f2, m2, _⟩ := h.shown
  obtain ⟨vs, r, _⟩ := h.waits
  obtain ⟨es1, k1, hm1⟩ := m1.isMap
  obtain ⟨es2, k2, hm2⟩ := m2.isMap
  intro hd
  rcases hd with rfl | rfl | rfl | hd
  · rw [h.row] at h1; injection h1 with h1; injection h1 with _ e _; exact h2 e.symm
  · rw [hm1] at h1; cases h1
  · rw [hm2] at h1; cases h1
  · obtain ⟨_, cs', hc⟩ := r.lt b hd
    rw [hc] at h1; injection h1 with h1; injection h1 with _ e _; exact h3 e.symm
theorem DK.apart (h : DK w g N sb hb wv su ws rg c p d K) (m : Mods S w w') (hS : ∀ b, S b → Off w b) : DK w' g N sb hb wv su ws rg c p d K := by
  have hd : ∀ b, Dt g sb hb wv b → ¬ S b := fun b hb' hs => h.off (hS b hs) hb'
  have ht : ∀ b y, w.heap[b]? = some (.cells (bcells (tx y)) 5 (0, 0)) → ¬ S b := fun b y e hs => (hS b hs).tx y e
  obtain ⟨n1, f1, m1, b1, s1⟩ := h.sure
  obtain ⟨n2, f2, m2, b2, s2⟩ := h.shown
  obtain ⟨vs, r, q⟩ := h.waits
  exact ⟨h.n1, h.n2, (m.block g h.lt (hd g (.inl rfl))).trans h.row, h.len, ⟨n1, f1, m1.mods m (hd sb (.inr (.inl rfl))), b1, s1.apart m ht⟩, ⟨n2, f2, m2.mods m (hd hb (.inr (.inr (.inl rfl)))), b2, s2.apart m ht⟩, ⟨vs, r.mods m (fun k hk => hd k (.inr (.inr (.inr hk)))), WS.apart m ht q⟩, h.ne, h.wl⟩
theorem LK.apart (h : LK w0 w g N sb hb wv su ws rg c p d K) (m : Mods S w w') (hS : ∀ b, S b → Off w b ∧ w0.heap.size ≤ b) : LK w0 w' g N sb hb wv su ws rg c p d K :=
  ⟨h.dk.apart m (fun b hb => (hS b hb).1), Mods.below h.b m h.b.size (fun b hb => (hS b hb).2), h.og, h.os, h.oh, h.ov⟩
theorem DkW.keeps {wv' : Value} {su' : Nat → Option Nat} {ws' : List (Nat × Nat)} {rg' : List Value} {c' p' : Int} {d' : Bool} {K' : Nat} (k : DkW w w' g N sb hb wv wv' su' ws' rg' c' p' d' K') (h : DK w g N sb hb wv su ws rg c p d K) {b : Nat} (ho : Off w b) : w'.heap[b]? = w.heap[b]? := by
  obtain ⟨cs, t, fr, h1, _⟩ := ho
  exact k.m.block b (Array.getElem?_eq_some_iff.1 h1).1 (h.off ⟨cs, t, fr, h1, by assumption⟩)
end
theorem shwn_write (su : Nat → Option Nat) (ws : List (Nat × Nat)) (s y k : Nat) : shwn su (ws ++ [(s, y)]) k = if k = s then some y else shwn su ws k := by
  unfold shwn
  rw [lastW_app]
  by_cases e : k = s
  · rw [if_pos e, if_pos e.symm]
  · rw [if_neg e, if_neg (fun h => e h.symm)]
theorem shwn_tamper (su : Nat → Option Nat) (ws : List (Nat × Nat)) (s y k : Nat) : shwn (putS su s y) (rest s ws) k = if k = s then some y else shwn su ws k := by
  unfold shwn putS
  rw [lastW_rest]
  by_cases e : k = s
  · rw [if_pos e, if_pos e, if_pos e]
  · rw [if_neg e, if_neg e, if_neg e]
theorem padT_getD (o : Option Nat) : padT o = tx (o.getD 0) := by cases o <;> rfl
/-- Four bytes as cells. -/
def arr4 (f : Nat → Nat) : Array Value := #[.int .u8 (f 0), .int .u8 (f 1), .int .u8 (f 2), .int .u8 (f 3)]
/-- One of them is another. -/
def updN (f : Nat → Nat) (s y : Nat) : Nat → Nat := fun j => if j = s then y else f j
theorem arr4_at (f : Nat → Nat) (i : Nat) (h : i < 4) : (arr4 f)[i]? = some (.int .u8 (f i)) := by
  rcases i with _ | _ | _ | _ | i
  · rfl
  · rfl
  · rfl
  · rfl
  · omega
theorem arr4_set (f : Nat → Nat) (i y : Nat) (h : i < 4) : (arr4 f).setIfInBounds i (.int .u8 y) = arr4 (updN f i y) := by
  rcases i with _ | _ | _ | _ | i
  · rfl
  · rfl
  · rfl
  · rfl
  · omega
open diskDown (OS str_tx u32_and3)
namespace diskShows
/-- What the law holds to be shown. -/
structure SH (w : World) (a : Nat) (f : Nat → Nat) (su : Nat → Option Nat) (ws : List (Nat × Nat)) : Prop where
  row : w.heap[a]? = some (.cells (arr4 f) 58 (0, 0))
  eq : ∀ k, k < 4 → f k = (shwn su ws k).getD 0 ∧ f k < 256
section
variable {w w' : World} {a : Nat} {f : Nat → Nat} {su : Nat → Option Nat} {ws : List (Nat × Nat)}
theorem SH.off (h : SH w a f su ws) : Off w a := ⟨_, _, _, h.row, by decide, by decide, .inl (by decide)⟩
theorem SH.lt (h : SH w a f su ws) : a < w.heap.size := (Array.getElem?_eq_some_iff.1 h.row).1
theorem SH.below (h : SH w a f su ws) (b : Below w.heap.size w w') : SH w' a f su ws := ⟨(b.block a h.lt).trans h.row, h.eq⟩
theorem SH.cell (h : SH w a f su ws) {i : Nat} (hi : i < 4) : w.cell? ⟨a, i, none⟩ = some (.int .u8 (f i)) := by rw [cell_of_row _ _ _ _ _ _ h.row]; exact arr4_at f i hi
theorem SH.fz (h : SH w a f su ws) (i : Nat) : w.frozen? ⟨a, i, none⟩ = false := by simp [World.frozen?, h.row]
theorem SH.set (h : w.heap[a]? = some (.cells (arr4 f) 58 (0, 0))) {s y : Nat} (hs : s < 4) : (w.setCell ⟨a, s, none⟩ (.int .u8 y)).heap[a]? = some (.cells (arr4 (updN f s y)) 58 (0, 0)) := by
  simp [World.setCell, Array.getElem?_modify, h, arr4_set f s y hs]
theorem upd_eq {su' : Nat → Option Nat} {ws' : List (Nat × Nat)} {s y : Nat} (h : ∀ k, k < 4 → f k = (shwn su ws k).getD 0 ∧ f k < 256) (hy : y < 256) (h' : ∀ k, shwn su' ws' k = if k = s then some y else shwn su ws k) : ∀ k, k < 4 → updN f s y k = (shwn su' ws' k).getD 0 ∧ updN f s y k < 256 := fun k hk => by
  rw [h' k]
  unfold updN
  by_cases e : k = s
  · rw [if_pos e, if_pos e]; exact ⟨rfl, hy⟩
  · rw [if_neg e, if_neg e]; exact h k hk
end
set_option maxRecDepth 100000 in
set_option maxHeartbeats 16000000 in
theorem walk (x : Option Addr) (l c : Nat) (w : World) (hx : OS w x l) :
    Calls Try.prog 6 #[.slice x l c] w fun e w' => e = .returned (.bool true) ∧ Below w.heap.size w w' := by
  have X := Lib.hid hx.2
  have hlm : l ≤ 9223372036854775807 := by have := hx.1; unfold maxLen at this; omega
  clear hx
  go_enter Try.func6, Try.ntmps6
  go_wp2_with fail
  refine (newD 4 (by omega) (by omega) w).mono ?_
  rintro e w1 ⟨g, sb, hb, rfl, h, h1, h2, h3, hbl⟩
  have L1 : Hid (LK w w1 g 4 sb hb (.slice none 0 0) (fun _ => none) [] (List.replicate 64 (.int .u8 0)) 0 (-1) false 0) := ⟨h, hbl, h1, h2, h3, fun k hk => by simp [Value.ownBlock] at hk⟩
  clear h hbl h1 h2 h3
  generalize List.replicate 64 (Value.int .u8 0) = rg at *
  obtain ⟨a, ha⟩ : ∃ a, a = w1.heap.size := ⟨_, rfl⟩
  obtain ⟨w2, hw2⟩ : ∃ w2, w2 = w1.alloc (.cells #[.int .u8 0, .int .u8 0, .int .u8 0, .int .u8 0] 58) := ⟨_, rfl⟩
  have b2 : Below w1.heap.size w1 w2 := by rw [hw2]; exact (Below.refl _ _).alloc (Nat.le_refl _) _
  have L2 := Lib.hid (L1.out.below b2)
  have S2 : Hid (SH w2 a (fun _ => 0) (fun _ => none) []) := ⟨by rw [hw2, ha]; exact heap_alloc_new _ _, fun k hk => ⟨rfl, by omega⟩⟩
  have AW : Hid (w.heap.size ≤ a) := by show _ ≤ _; rw [ha]; exact L1.out.b.size
  go_wp2_with fail
  rw [← hw2, ← ha]
  clear L1 b2 hw2 ha
  go_loopg [6, 7, 8, 9, 10, 11] (min l 100) (fun r vi _ _ _ _ _ wr => ∃ (j : Nat) (wv : Value) (su : Nat → Option Nat) (ws : List (Nat × Nat)) (C : Int) (K : Nat) (F : Nat → Nat), r + j = min l 100 ∧ vi = .int .i64 j ∧ LK w wr g 4 sb hb wv su ws rg C (-1) false K ∧ SH wr a F su ws ∧ 0 ≤ C ∧ C ≤ j ∧ K ≤ j)
  case atStart => exact ⟨0, _, _, _, _, _, _, by omega, rfl, L2.out, S2.out, by omega, by omega, by omega⟩
  case round =>
    clear L2 S2
    obtain ⟨j, wv, su, ws, C, K, F0, hr, rfl, hl, hsh, hc0, hc1, hk0⟩ := hrel
    have S := Lib.hid hl
    have H := Lib.hid hsh
    have HR := Lib.hid hr
    have CB : Hid (0 ≤ C ∧ C ≤ j ∧ K ≤ j) := ⟨hc0, hc1, hk0⟩
    clear hl hsh hr hc0 hc1 hk0
    by_cases hlt : j < l ∧ j < 100
    · obtain ⟨hj1, hj2⟩ := hlt
      obtain ⟨kd, s, y, n', x', l', c', b, o, rfl, hbl, hs4, hy, c0, c1, c2, c3, c4⟩ := X.out j hj1
      have XB : Hid (b < w.heap.size ∧ w.cell? ⟨b, o + j * 5 + 2, none⟩ = some (.int .u8 y)) := ⟨hbl, c2⟩
      have XC : Hid (∀ W, Below w.heap.size w W → W.cell? ⟨b, o + j * 5 + 2, none⟩ = some (.int .u8 y)) := fun W hW => (hW.cell (p := ⟨b, o + j * 5 + 2, none⟩) hbl).trans c2
      have e0 := (S.out.b.cell (p := ⟨b, o + j * 5, none⟩) hbl).trans c0
      have e1 := (S.out.b.cell (p := ⟨b, o + j * 5 + 1, none⟩) hbl).trans c1
      have e2 := (S.out.b.cell (p := ⟨b, o + j * 5 + 2, none⟩) hbl).trans c2
      obtain ⟨s3, hs3, hs33⟩ := u32_and3 s hs4
      have hs3i : (s3 : Int) ≤ 3 := by omega
      have hs34 : s3 < 4 := by omega
      have HY : Hid (y < 256) := hy
      clear c0 c1 c2 c3 c4 hbl hs4 hy hs33
      by_cases k0 : kd = 0
      · have q0 : (kd == 0) = true := by simp [k0]
        clear k0
        go_wp2_with fail
        refine (fullAny y 0 512 (.inr ⟨by omega, rfl⟩) wr).mono ?_
        rintro e w3 ⟨b3, rfl, k1, _, k3⟩
        have S3 := Lib.hid (S.out.below k3)
        have H3 := Lib.hid (H.out.below k3)
        have T3 : Hid (TX w3 (.slice (some ⟨b3, 0, none⟩) 512 512) (tx y)) := ⟨b3, by rw [tx_len], k1⟩
        clear k1 k3 S H e0 e1 e2
        go_wp2_with fail
        refine (writeD_ok S3.out.dk s3 y _ (by omega) T3.out HY.out CB.out.1 (by have := CB.out; omega) (by omega) (by omega) (by have := CB.out; omega)).mono ?_
        rintro e w4 ⟨v4, rfl, hd⟩
        have S4 := Lib.hid (S3.out.step hd)
        have R4 : Hid (w4.heap[a]? = some (.cells (arr4 F0) 58 (0, 0))) := (hd.keeps S3.out.dk H3.out.off).trans H3.out.row
        have f2 := XC.out w4 S4.out.b
        have f3 : w4.cell? ⟨a, s3, none⟩ = some (.int .u8 (F0 s3)) := by rw [cell_of_row _ _ _ _ _ _ R4.out]; exact arr4_at F0 s3 hs34
        have f4 : w4.frozen? ⟨a, s3, none⟩ = false := by have := R4.out; simp [World.frozen?, this]
        have L5 : Hid (LK w (w4.setCell ⟨a, s3, none⟩ (.int .u8 y)) g 4 sb hb v4 su (ws ++ [(s3, y)]) rg (C + 1) (pl (-1)) false (K + 1)) :=
          S4.out.apart (Mods.set (S := fun k => k = a) w4 ⟨a, s3, none⟩ _ rfl) (fun b hb => ⟨by rw [hb]; exact ⟨_, _, _, R4.out, by decide, by decide, .inl (by decide)⟩, by rw [hb]; exact AW.out⟩)
        have H5 : Hid (SH (w4.setCell ⟨a, s3, none⟩ (.int .u8 y)) a (updN F0 s3 y) su (ws ++ [(s3, y)])) := ⟨SH.set R4.out hs34, upd_eq H3.out.eq HY.out (shwn_write su ws s3 y)⟩
        clear hd S3 T3 H3 S4 R4
        go_wp2_with fail
        generalize w4.setCell ⟨a, s3, none⟩ (.int .u8 y) = w5 at *
        clear f2 f3 f4
        generalize updN F0 s3 y = F at *
        refine (readD_ok L5.out.dk s3 (by omega)).mono ?_
        rintro e w7 ⟨b7, rfl, m1, _, m3⟩
        have L7 := Lib.hid (L5.out.below m3)
        have H7 := Lib.hid (H5.out.below m3)
        obtain ⟨Y, hY⟩ : ∃ Y, Y = F s3 := ⟨_, rfl⟩
        have HY7 : Hid (Y < 256) := by show _ < _; rw [hY]; exact (H7.out.eq s3 hs34).2
        have M1 : Hid (w7.heap[b7]? = some (.cells (bcells (tx Y)) 5 (0, 0))) := by
          show _ = _
          rw [hY, (H7.out.eq s3 hs34).1, ← padT_getD]; exact m1
        have A7 : Hid (∀ W, Below w7.heap.size w7 W → W.cell? ⟨a, s3, none⟩ = some (.int .u8 Y)) := fun W hW => by rw [hY]; exact (H7.out.below hW).cell hs34
        clear hY m1 m3
        obtain ⟨st, hst⟩ : ∃ st, st = strOfNums ((tx Y).map fun n : Nat => (n : Int)) := ⟨_, rfl⟩
        have ST : Hid (∀ (W : World) (b : Nat), W.heap[b]? = some (.cells (bcells (tx Y)) 5 (0, 0)) → (convert 32 9 (.slice (some ⟨b, 0, none⟩) 512 512)).run Try.prog W = .ok (.string st) W) := fun W b h => by rw [hst]; exact str_tx h
        clear hst
        have LB7 : Hid (b7 < w7.heap.size) := (Array.getElem?_eq_some_iff.1 M1.out).1
        clear L5 H5
        go_wp2_with fail
        refine wp_region_held_drew (S := fun W => Below w7.heap.size w7 W) (by kernel_rfl) ((Below.refl _ _).drew) (fun hS => ?_)
        generalize w7.drew = wd at *
        refine' wpAnyH_take (i := 0) ?h1x0p ?hsx0p ?hfx0p ?hrx0p ?hQx0p (Or.inl ⟨?hwx0p, ?hyx0p⟩) hS ?restx0p
        case h1x0p => (simp only [List.getElem?_toArray, List.getElem?_cons_zero]; rfl)
        case hsx0p => kernel_rfl
        case hfx0p => kernel_rfl
        case hrx0p => kernel_rfl
        case hQx0p => exact fun _ _ _ h => h
        case hwx0p => rfl
        case hyx0p =>
          intro W hW
          go_simp
          try with_reducible rfl
        simp only [Act.put, List.setIfInBounds_toArray, List.set_cons_succ, List.set_cons_zero]
        refine' wpAnyH_take (i := 1) ?h1x1p ?hsx1p ?hfx1p ?hrx1p ?hQx1p (Or.inl ⟨?hwx1p, ?hyx1p⟩) hS ?restx1p
        case h1x1p => (simp only [List.getElem?_toArray, List.getElem?_cons_succ, List.getElem?_cons_zero]; rfl)
        case hsx1p => kernel_rfl
        case hfx1p => kernel_rfl
        case hrx1p => kernel_rfl
        case hQx1p => exact fun _ _ _ h => h
        case hwx1p => rfl
        case hyx1p =>
          intro W hW
          go_simp
          try with_reducible rfl
        simp only [Act.put, List.setIfInBounds_toArray, List.set_cons_succ, List.set_cons_zero]
        refine' wpAnyH_take (i := 2) ?h1x2p ?hsx2p ?hfx2p ?hrx2p ?hQx2p (Or.inl ⟨?hwx2p, ?hyx2p⟩) hS ?restx2p
        case h1x2p => (simp only [List.getElem?_toArray, List.getElem?_cons_succ, List.getElem?_cons_zero]; rfl)
        case hsx2p => kernel_rfl
        case hfx2p => kernel_rfl
        case hrx2p => kernel_rfl
        case hQx2p => exact fun _ _ _ h => h
        case hwx2p => rfl
        case hyx2p =>
          intro W hW
          go_simp
          try with_reducible rfl
        simp only [Act.put, List.setIfInBounds_toArray, List.set_cons_succ, List.set_cons_zero]
        refine' wpAnyH_take (i := 3) ?h1x3p ?hsx3p ?hfx3p ?hrx3p ?hQx3p (Or.inl ⟨?hwx3p, ?hyx3p⟩) hS ?restx3p
        case h1x3p => (simp only [List.getElem?_toArray, List.getElem?_cons_succ, List.getElem?_cons_zero]; rfl)
        case hsx3p => kernel_rfl
        case hfx3p => kernel_rfl
        case hrx3p => kernel_rfl
        case hQx3p => exact fun _ _ _ h => h
        case hwx3p => rfl
        case hyx3p =>
          intro W hW
          go_simp
          try with_reducible rfl
        simp only [Act.put, List.setIfInBounds_toArray, List.set_cons_succ, List.set_cons_zero]
        refine' wpAnyH_take (i := 4) ?h1x4p ?hsx4p ?hfx4p ?hrx4p ?hQx4p (Or.inl ⟨?hwx4p, ?hyx4p⟩) hS ?restx4p
        case h1x4p => (simp only [List.getElem?_toArray, List.getElem?_cons_succ, List.getElem?_cons_zero]; rfl)
        case hsx4p => kernel_rfl
        case hfx4p => kernel_rfl
        case hrx4p => kernel_rfl
        case hQx4p => exact fun _ _ _ h => h
        case hwx4p => rfl
        case hyx4p =>
          intro W hW
          have tt := ST.out W b7 ((hW.block _ LB7.out).trans M1.out)
          go_simp
          try with_reducible rfl
        simp only [Act.put, List.setIfInBounds_toArray, List.set_cons_succ, List.set_cons_zero]
        refine' wpAnyH_take (i := 5) ?h1x5p ?hsx5p ?hfx5p ?hrx5p ?hQx5p (Or.inl ⟨?hwx5p, ?hyx5p⟩) hS ?restx5p
        case h1x5p => (simp only [List.getElem?_toArray, List.getElem?_cons_succ, List.getElem?_cons_zero]; rfl)
        case hsx5p => kernel_rfl
        case hfx5p => kernel_rfl
        case hrx5p => kernel_rfl
        case hQx5p => exact fun _ _ _ h => h
        case hwx5p => rfl
        case hyx5p =>
          intro W hW
          go_simp
          try with_reducible rfl
        simp only [Act.put, List.setIfInBounds_toArray, List.set_cons_succ, List.set_cons_zero]
        refine' wpAnyH_take (i := 6) ?h1x6p ?hsx6p ?hfx6p ?hrx6p ?hQx6p (Or.inl ⟨?hwx6p, ?hyx6p⟩) hS ?restx6p
        case h1x6p => (simp only [List.getElem?_toArray, List.getElem?_cons_succ, List.getElem?_cons_zero]; rfl)
        case hsx6p => kernel_rfl
        case hfx6p => kernel_rfl
        case hrx6p => kernel_rfl
        case hQx6p => exact fun _ _ _ h => h
        case hwx6p => rfl
        case hyx6p =>
          intro W hW
          have ti : (s3 : Int) < 4 := by omega
          go_simp
          try with_reducible rfl
        simp only [Act.put, List.setIfInBounds_toArray, List.set_cons_succ, List.set_cons_zero]
        refine' wpAnyH_take (i := 7) ?h1x7p ?hsx7p ?hfx7p ?hrx7p ?hQx7p (Or.inl ⟨?hwx7p, ?hyx7p⟩) hS ?restx7p
        case h1x7p => (simp only [List.getElem?_toArray, List.getElem?_cons_succ, List.getElem?_cons_zero]; rfl)
        case hsx7p => kernel_rfl
        case hfx7p => kernel_rfl
        case hrx7p => kernel_rfl
        case hQx7p => exact fun _ _ _ h => h
        case hwx7p => rfl
        case hyx7p =>
          intro W hW
          have tt := A7.out W hW
          go_simp
          try with_reducible rfl
        simp only [Act.put, List.setIfInBounds_toArray, List.set_cons_succ, List.set_cons_zero]
        refine wpAnyH_ready (rs := [8]) (by kernel_rfl) (by simp) ?_
        refine' AllReadyH.cons ?hoc8p (fun K hK => ?stc8p) AllReadyH.nil
        case hoc8p => (simp only [List.getElem?_toArray, List.getElem?_cons_succ, List.getElem?_cons_zero]; rfl)
        go_simp
        refine (fullAny Y 0 512 (.inr ⟨by omega, rfl⟩) _).mono ?_
        rintro e w9 ⟨b9, rfl, m9, _, hb⟩
        go_wp2_with fail
        refine hK.out _ _ (hS.trans (hb.mono hS.size)) (fun hHeld => ?_)
        clear hK K
        try simp only [Act.put, List.setIfInBounds_toArray, List.set_cons_succ, List.set_cons_zero]
        have t9 := ST.out _ b9 m9
        clear m9
        clear hS hb
        have hS := hHeld
        clear hHeld
        refine wpAnyH_ready (rs := [9]) (by kernel_rfl) (by simp) ?_
        refine' AllReadyH.cons ?hoc9p (fun K hK => ?stc9p) AllReadyH.nil
        case hoc9p => (simp only [List.getElem?_toArray, List.getElem?_cons_succ, List.getElem?_cons_zero]; rfl)
        go_simp
        refine hK.out _ _ hS (fun hHeld => ?_)
        clear hK K hHeld t9
        try simp only [Act.put, List.setIfInBounds_toArray, List.set_cons_succ, List.set_cons_zero]
        refine' wpAnyH_take (i := 10) ?h1x10p ?hsx10p ?hfx10p ?hrx10p ?hQx10p (Or.inl ⟨?hwx10p, ?hyx10p⟩) hS ?restx10p
        case h1x10p => (simp only [List.getElem?_toArray, List.getElem?_cons_succ, List.getElem?_cons_zero]; rfl)
        case hsx10p => kernel_rfl
        case hfx10p => kernel_rfl
        case hrx10p => kernel_rfl
        case hQx10p => exact fun _ _ _ h => h
        case hwx10p => rfl
        case hyx10p =>
          intro W hW
          go_simp
          try with_reducible rfl
        simp only [Act.put, List.setIfInBounds_toArray, List.set_cons_succ, List.set_cons_zero]
        refine' wpAnyH_take (i := 11) ?h1x11p ?hsx11p ?hfx11p ?hrx11p ?hQx11p (Or.inl ⟨?hwx11p, ?hyx11p⟩) hS ?restx11p
        case h1x11p => (simp only [List.getElem?_toArray, List.getElem?_cons_succ, List.getElem?_cons_zero]; rfl)
        case hsx11p => kernel_rfl
        case hfx11p => kernel_rfl
        case hrx11p => kernel_rfl
        case hQx11p => exact fun _ _ _ h => h
        case hwx11p => rfl
        case hyx11p =>
          intro W hW
          go_simp
          try with_reducible rfl
        simp only [Act.put, List.setIfInBounds_toArray, List.set_cons_succ, List.set_cons_zero]
        refine wpAnyH_done (by kernel_rfl) ?_ _
        go_wp2_with fail
        go_roundg (min l 100 - (j + 1))
        case measure => have := HR.out; omega
        case rel => exact ⟨j + 1, _, _, _, _, _, _, by omega, by go_num, L7.out.below hS, H7.out.below hS, by have := CB.out; omega, by have := CB.out; omega, by have := CB.out; omega⟩
      · have q0 : (kd == 0) = false := by simp [k0]
        by_cases k6 : kd = 6
        · have q6 : (kd == 6) = true := by simp [k6]
          clear k0 k6
          go_wp2_with fail
          refine (fullAny y 0 512 (.inr ⟨by omega, rfl⟩) wr).mono ?_
          rintro e w3 ⟨b3, rfl, k1, _, k3⟩
          have S3 := Lib.hid (S.out.below k3)
          have H3 := Lib.hid (H.out.below k3)
          have T3 : Hid (TX w3 (.slice (some ⟨b3, 0, none⟩) 512 512) (tx y)) := ⟨b3, by rw [tx_len], k1⟩
          clear k1 k3 S H e0 e1 e2
          go_wp2_with fail
          refine (tamperD S3.out.dk s3 y _ (by omega) T3.out HY.out (by have := CB.out; omega)).mono ?_
          rintro e w4 ⟨v4, rfl, hd⟩
          have S4 := Lib.hid (S3.out.step hd)
          have R4 : Hid (w4.heap[a]? = some (.cells (arr4 F0) 58 (0, 0))) := (hd.keeps S3.out.dk H3.out.off).trans H3.out.row
          have f2 := XC.out w4 S4.out.b
          have f3 : w4.cell? ⟨a, s3, none⟩ = some (.int .u8 (F0 s3)) := by rw [cell_of_row _ _ _ _ _ _ R4.out]; exact arr4_at F0 s3 hs34
          have f4 : w4.frozen? ⟨a, s3, none⟩ = false := by have := R4.out; simp [World.frozen?, this]
          have L5 : Hid (LK w (w4.setCell ⟨a, s3, none⟩ (.int .u8 y)) g 4 sb hb v4 (putS su s3 y) (rest s3 ws) rg C (-1) false (K + 1)) :=
            S4.out.apart (Mods.set (S := fun k => k = a) w4 ⟨a, s3, none⟩ _ rfl) (fun b hb => ⟨by rw [hb]; exact ⟨_, _, _, R4.out, by decide, by decide, .inl (by decide)⟩, by rw [hb]; exact AW.out⟩)
          have H5 : Hid (SH (w4.setCell ⟨a, s3, none⟩ (.int .u8 y)) a (updN F0 s3 y) (putS su s3 y) (rest s3 ws)) := ⟨SH.set R4.out hs34, upd_eq H3.out.eq HY.out (shwn_tamper su ws s3 y)⟩
          clear hd S3 T3 H3 S4 R4
          go_wp2_with fail
          generalize w4.setCell ⟨a, s3, none⟩ (.int .u8 y) = w5 at *
          clear f2 f3 f4
          generalize updN F0 s3 y = F at *
          refine (sureD_ok L5.out.dk s3 (by omega)).mono ?_
          rintro e w6 ⟨b6, rfl, m1, _, m3⟩
          have L6 := Lib.hid (L5.out.below m3)
          have H6 := Lib.hid (H5.out.below m3)
          have M6 : w6.heap[b6]? = some (.cells (bcells (tx y)) 5 (0, 0)) := by
            have e : putS su s3 y s3 = some y := by simp [putS]
            rw [e] at m1; exact m1
          have g7 : w6.cell? ⟨b6, 7, none⟩ = some (.int .u8 y) := by
            rw [cell_of_row _ _ _ _ _ _ M6]
            unfold bcells tx
            rw [List.getElem?_toArray, List.getElem?_map, List.getElem?_replicate, if_pos (by omega)]
            rfl
          have f2 := XC.out w6 L6.out.b
          clear m1 m3 M6 L5 H5
          go_wp2_with fail
          go_quiet (fail)
          have L8 : Hid (LK w (w6.drewN nq) g 4 sb hb v4 (putS su s3 y) (rest s3 ws) rg C (-1) false (K + 1)) := L6.out.below ⟨rfl, rfl, rfl, Nat.le_refl _, fun _ _ => rfl⟩
          have H8 : Hid (SH (w6.drewN nq) a F (putS su s3 y) (rest s3 ws)) := H6.out.below ⟨rfl, rfl, rfl, Nat.le_refl _, fun _ _ => rfl⟩
          generalize w6.drewN nq = w8 at *
          clear L6 H6 f2 g7
          go_wp2_with fail
          refine (readD_ok L8.out.dk s3 (by omega)).mono ?_
          rintro e w7 ⟨b7, rfl, m1, _, m3⟩
          have L7 := Lib.hid (L8.out.below m3)
          have H7 := Lib.hid (H8.out.below m3)
          obtain ⟨Y, hY⟩ : ∃ Y, Y = F s3 := ⟨_, rfl⟩
          have HY7 : Hid (Y < 256) := by show _ < _; rw [hY]; exact (H7.out.eq s3 hs34).2
          have M1 : Hid (w7.heap[b7]? = some (.cells (bcells (tx Y)) 5 (0, 0))) := by
            show _ = _
            rw [hY, (H7.out.eq s3 hs34).1, ← padT_getD]; exact m1
          have A7 : Hid (∀ W, Below w7.heap.size w7 W → W.cell? ⟨a, s3, none⟩ = some (.int .u8 Y)) := fun W hW => by rw [hY]; exact (H7.out.below hW).cell hs34
          clear hY m1 m3
          obtain ⟨st, hst⟩ : ∃ st, st = strOfNums ((tx Y).map fun n : Nat => (n : Int)) := ⟨_, rfl⟩
          have ST : Hid (∀ (W : World) (b : Nat), W.heap[b]? = some (.cells (bcells (tx Y)) 5 (0, 0)) → (convert 32 9 (.slice (some ⟨b, 0, none⟩) 512 512)).run Try.prog W = .ok (.string st) W) := fun W b h => by rw [hst]; exact str_tx h
          clear hst
          have LB7 : Hid (b7 < w7.heap.size) := (Array.getElem?_eq_some_iff.1 M1.out).1
          clear L8 H8
          go_wp2_with fail
          refine wp_region_held_drew (S := fun W => Below w7.heap.size w7 W) (by kernel_rfl) ((Below.refl _ _).drew) (fun hS => ?_)
          generalize w7.drew = wd at *
          refine' wpAnyH_take (i := 0) ?h1x0q ?hsx0q ?hfx0q ?hrx0q ?hQx0q (Or.inl ⟨?hwx0q, ?hyx0q⟩) hS ?restx0q
          case h1x0q => (simp only [List.getElem?_toArray, List.getElem?_cons_zero]; rfl)
          case hsx0q => kernel_rfl
          case hfx0q => kernel_rfl
          case hrx0q => kernel_rfl
          case hQx0q => exact fun _ _ _ h => h
          case hwx0q => rfl
          case hyx0q =>
            intro W hW
            go_simp
            try with_reducible rfl
          simp only [Act.put, List.setIfInBounds_toArray, List.set_cons_succ, List.set_cons_zero]
          refine' wpAnyH_take (i := 1) ?h1x1q ?hsx1q ?hfx1q ?hrx1q ?hQx1q (Or.inl ⟨?hwx1q, ?hyx1q⟩) hS ?restx1q
          case h1x1q => (simp only [List.getElem?_toArray, List.getElem?_cons_succ, List.getElem?_cons_zero]; rfl)
          case hsx1q => kernel_rfl
          case hfx1q => kernel_rfl
          case hrx1q => kernel_rfl
          case hQx1q => exact fun _ _ _ h => h
          case hwx1q => rfl
          case hyx1q =>
            intro W hW
            go_simp
            try with_reducible rfl
          simp only [Act.put, List.setIfInBounds_toArray, List.set_cons_succ, List.set_cons_zero]
          refine' wpAnyH_take (i := 2) ?h1x2q ?hsx2q ?hfx2q ?hrx2q ?hQx2q (Or.inl ⟨?hwx2q, ?hyx2q⟩) hS ?restx2q
          case h1x2q => (simp only [List.getElem?_toArray, List.getElem?_cons_succ, List.getElem?_cons_zero]; rfl)
          case hsx2q => kernel_rfl
          case hfx2q => kernel_rfl
          case hrx2q => kernel_rfl
          case hQx2q => exact fun _ _ _ h => h
          case hwx2q => rfl
          case hyx2q =>
            intro W hW
            go_simp
            try with_reducible rfl
          simp only [Act.put, List.setIfInBounds_toArray, List.set_cons_succ, List.set_cons_zero]
          refine' wpAnyH_take (i := 3) ?h1x3q ?hsx3q ?hfx3q ?hrx3q ?hQx3q (Or.inl ⟨?hwx3q, ?hyx3q⟩) hS ?restx3q
          case h1x3q => (simp only [List.getElem?_toArray, List.getElem?_cons_succ, List.getElem?_cons_zero]; rfl)
          case hsx3q => kernel_rfl
          case hfx3q => kernel_rfl
          case hrx3q => kernel_rfl
          case hQx3q => exact fun _ _ _ h => h
          case hwx3q => rfl
          case hyx3q =>
            intro W hW
            go_simp
            try with_reducible rfl
          simp only [Act.put, List.setIfInBounds_toArray, List.set_cons_succ, List.set_cons_zero]
          refine' wpAnyH_take (i := 4) ?h1x4q ?hsx4q ?hfx4q ?hrx4q ?hQx4q (Or.inl ⟨?hwx4q, ?hyx4q⟩) hS ?restx4q
          case h1x4q => (simp only [List.getElem?_toArray, List.getElem?_cons_succ, List.getElem?_cons_zero]; rfl)
          case hsx4q => kernel_rfl
          case hfx4q => kernel_rfl
          case hrx4q => kernel_rfl
          case hQx4q => exact fun _ _ _ h => h
          case hwx4q => rfl
          case hyx4q =>
            intro W hW
            have tt := ST.out W b7 ((hW.block _ LB7.out).trans M1.out)
            go_simp
            try with_reducible rfl
          simp only [Act.put, List.setIfInBounds_toArray, List.set_cons_succ, List.set_cons_zero]
          refine' wpAnyH_take (i := 5) ?h1x5q ?hsx5q ?hfx5q ?hrx5q ?hQx5q (Or.inl ⟨?hwx5q, ?hyx5q⟩) hS ?restx5q
          case h1x5q => (simp only [List.getElem?_toArray, List.getElem?_cons_succ, List.getElem?_cons_zero]; rfl)
          case hsx5q => kernel_rfl
          case hfx5q => kernel_rfl
          case hrx5q => kernel_rfl
          case hQx5q => exact fun _ _ _ h => h
          case hwx5q => rfl
          case hyx5q =>
            intro W hW
            go_simp
            try with_reducible rfl
          simp only [Act.put, List.setIfInBounds_toArray, List.set_cons_succ, List.set_cons_zero]
          refine' wpAnyH_take (i := 6) ?h1x6q ?hsx6q ?hfx6q ?hrx6q ?hQx6q (Or.inl ⟨?hwx6q, ?hyx6q⟩) hS ?restx6q
          case h1x6q => (simp only [List.getElem?_toArray, List.getElem?_cons_succ, List.getElem?_cons_zero]; rfl)
          case hsx6q => kernel_rfl
          case hfx6q => kernel_rfl
          case hrx6q => kernel_rfl
          case hQx6q => exact fun _ _ _ h => h
          case hwx6q => rfl
          case hyx6q =>
            intro W hW
            have ti : (s3 : Int) < 4 := by omega
            go_simp
            try with_reducible rfl
          simp only [Act.put, List.setIfInBounds_toArray, List.set_cons_succ, List.set_cons_zero]
          refine' wpAnyH_take (i := 7) ?h1x7q ?hsx7q ?hfx7q ?hrx7q ?hQx7q (Or.inl ⟨?hwx7q, ?hyx7q⟩) hS ?restx7q
          case h1x7q => (simp only [List.getElem?_toArray, List.getElem?_cons_succ, List.getElem?_cons_zero]; rfl)
          case hsx7q => kernel_rfl
          case hfx7q => kernel_rfl
          case hrx7q => kernel_rfl
          case hQx7q => exact fun _ _ _ h => h
          case hwx7q => rfl
          case hyx7q =>
            intro W hW
            have tt := A7.out W hW
            go_simp
            try with_reducible rfl
          simp only [Act.put, List.setIfInBounds_toArray, List.set_cons_succ, List.set_cons_zero]
          refine wpAnyH_ready (rs := [8]) (by kernel_rfl) (by simp) ?_
          refine' AllReadyH.cons ?hoc8q (fun K hK => ?stc8q) AllReadyH.nil
          case hoc8q => (simp only [List.getElem?_toArray, List.getElem?_cons_succ, List.getElem?_cons_zero]; rfl)
          go_simp
          refine (fullAny Y 0 512 (.inr ⟨by omega, rfl⟩) _).mono ?_
          rintro e w9 ⟨b9, rfl, m9, _, hb⟩
          go_wp2_with fail
          refine hK.out _ _ (hS.trans (hb.mono hS.size)) (fun hHeld => ?_)
          clear hK K
          try simp only [Act.put, List.setIfInBounds_toArray, List.set_cons_succ, List.set_cons_zero]
          have t9 := ST.out _ b9 m9
          clear m9
          clear hS hb
          have hS := hHeld
          clear hHeld
          refine wpAnyH_ready (rs := [9]) (by kernel_rfl) (by simp) ?_
          refine' AllReadyH.cons ?hoc9q (fun K hK => ?stc9q) AllReadyH.nil
          case hoc9q => (simp only [List.getElem?_toArray, List.getElem?_cons_succ, List.getElem?_cons_zero]; rfl)
          go_simp
          refine hK.out _ _ hS (fun hHeld => ?_)
          clear hK K hHeld t9
          try simp only [Act.put, List.setIfInBounds_toArray, List.set_cons_succ, List.set_cons_zero]
          refine' wpAnyH_take (i := 10) ?h1x10q ?hsx10q ?hfx10q ?hrx10q ?hQx10q (Or.inl ⟨?hwx10q, ?hyx10q⟩) hS ?restx10q
          case h1x10q => (simp only [List.getElem?_toArray, List.getElem?_cons_succ, List.getElem?_cons_zero]; rfl)
          case hsx10q => kernel_rfl
          case hfx10q => kernel_rfl
          case hrx10q => kernel_rfl
          case hQx10q => exact fun _ _ _ h => h
          case hwx10q => rfl
          case hyx10q =>
            intro W hW
            go_simp
            try with_reducible rfl
          simp only [Act.put, List.setIfInBounds_toArray, List.set_cons_succ, List.set_cons_zero]
          refine' wpAnyH_take (i := 11) ?h1x11q ?hsx11q ?hfx11q ?hrx11q ?hQx11q (Or.inl ⟨?hwx11q, ?hyx11q⟩) hS ?restx11q
          case h1x11q => (simp only [List.getElem?_toArray, List.getElem?_cons_succ, List.getElem?_cons_zero]; rfl)
          case hsx11q => kernel_rfl
          case hfx11q => kernel_rfl
          case hrx11q => kernel_rfl
          case hQx11q => exact fun _ _ _ h => h
          case hwx11q => rfl
          case hyx11q =>
            intro W hW
            go_simp
            try with_reducible rfl
          simp only [Act.put, List.setIfInBounds_toArray, List.set_cons_succ, List.set_cons_zero]
          refine wpAnyH_done (by kernel_rfl) ?_ _
          go_wp2_with fail
          go_roundg (min l 100 - (j + 1))
          case measure => have := HR.out; omega
          case rel => exact ⟨j + 1, _, _, _, _, _, _, by omega, by go_num, L7.out.below hS, H7.out.below hS, by have := CB.out; omega, by have := CB.out; omega, by have := CB.out; omega⟩
        · have q6 : (kd == 6) = false := by simp [k6]
          clear k0 k6
          go_wp2_with fail
          generalize F0 = F at *
          refine (readD_ok S.out.dk s3 (by omega)).mono ?_
          rintro e w7 ⟨b7, rfl, m1, _, m3⟩
          have L7 := Lib.hid (S.out.below m3)
          have H7 := Lib.hid (H.out.below m3)
          obtain ⟨Y, hY⟩ : ∃ Y, Y = F s3 := ⟨_, rfl⟩
          have HY7 : Hid (Y < 256) := by show _ < _; rw [hY]; exact (H7.out.eq s3 hs34).2
          have M1 : Hid (w7.heap[b7]? = some (.cells (bcells (tx Y)) 5 (0, 0))) := by
            show _ = _
            rw [hY, (H7.out.eq s3 hs34).1, ← padT_getD]; exact m1
          have A7 : Hid (∀ W, Below w7.heap.size w7 W → W.cell? ⟨a, s3, none⟩ = some (.int .u8 Y)) := fun W hW => by rw [hY]; exact (H7.out.below hW).cell hs34
          clear hY m1 m3
          obtain ⟨st, hst⟩ : ∃ st, st = strOfNums ((tx Y).map fun n : Nat => (n : Int)) := ⟨_, rfl⟩
          have ST : Hid (∀ (W : World) (b : Nat), W.heap[b]? = some (.cells (bcells (tx Y)) 5 (0, 0)) → (convert 32 9 (.slice (some ⟨b, 0, none⟩) 512 512)).run Try.prog W = .ok (.string st) W) := fun W b h => by rw [hst]; exact str_tx h
          clear hst
          have LB7 : Hid (b7 < w7.heap.size) := (Array.getElem?_eq_some_iff.1 M1.out).1
          clear S H
          go_wp2_with fail
          refine wp_region_held_drew (S := fun W => Below w7.heap.size w7 W) (by kernel_rfl) ((Below.refl _ _).drew) (fun hS => ?_)
          generalize w7.drew = wd at *
          refine' wpAnyH_take (i := 0) ?h1x0r ?hsx0r ?hfx0r ?hrx0r ?hQx0r (Or.inl ⟨?hwx0r, ?hyx0r⟩) hS ?restx0r
          case h1x0r => (simp only [List.getElem?_toArray, List.getElem?_cons_zero]; rfl)
          case hsx0r => kernel_rfl
          case hfx0r => kernel_rfl
          case hrx0r => kernel_rfl
          case hQx0r => exact fun _ _ _ h => h
          case hwx0r => rfl
          case hyx0r =>
            intro W hW
            go_simp
            try with_reducible rfl
          simp only [Act.put, List.setIfInBounds_toArray, List.set_cons_succ, List.set_cons_zero]
          refine' wpAnyH_take (i := 1) ?h1x1r ?hsx1r ?hfx1r ?hrx1r ?hQx1r (Or.inl ⟨?hwx1r, ?hyx1r⟩) hS ?restx1r
          case h1x1r => (simp only [List.getElem?_toArray, List.getElem?_cons_succ, List.getElem?_cons_zero]; rfl)
          case hsx1r => kernel_rfl
          case hfx1r => kernel_rfl
          case hrx1r => kernel_rfl
          case hQx1r => exact fun _ _ _ h => h
          case hwx1r => rfl
          case hyx1r =>
            intro W hW
            go_simp
            try with_reducible rfl
          simp only [Act.put, List.setIfInBounds_toArray, List.set_cons_succ, List.set_cons_zero]
          refine' wpAnyH_take (i := 2) ?h1x2r ?hsx2r ?hfx2r ?hrx2r ?hQx2r (Or.inl ⟨?hwx2r, ?hyx2r⟩) hS ?restx2r
          case h1x2r => (simp only [List.getElem?_toArray, List.getElem?_cons_succ, List.getElem?_cons_zero]; rfl)
          case hsx2r => kernel_rfl
          case hfx2r => kernel_rfl
          case hrx2r => kernel_rfl
          case hQx2r => exact fun _ _ _ h => h
          case hwx2r => rfl
          case hyx2r =>
            intro W hW
            go_simp
            try with_reducible rfl
          simp only [Act.put, List.setIfInBounds_toArray, List.set_cons_succ, List.set_cons_zero]
          refine' wpAnyH_take (i := 3) ?h1x3r ?hsx3r ?hfx3r ?hrx3r ?hQx3r (Or.inl ⟨?hwx3r, ?hyx3r⟩) hS ?restx3r
          case h1x3r => (simp only [List.getElem?_toArray, List.getElem?_cons_succ, List.getElem?_cons_zero]; rfl)
          case hsx3r => kernel_rfl
          case hfx3r => kernel_rfl
          case hrx3r => kernel_rfl
          case hQx3r => exact fun _ _ _ h => h
          case hwx3r => rfl
          case hyx3r =>
            intro W hW
            go_simp
            try with_reducible rfl
          simp only [Act.put, List.setIfInBounds_toArray, List.set_cons_succ, List.set_cons_zero]
          refine' wpAnyH_take (i := 4) ?h1x4r ?hsx4r ?hfx4r ?hrx4r ?hQx4r (Or.inl ⟨?hwx4r, ?hyx4r⟩) hS ?restx4r
          case h1x4r => (simp only [List.getElem?_toArray, List.getElem?_cons_succ, List.getElem?_cons_zero]; rfl)
          case hsx4r => kernel_rfl
          case hfx4r => kernel_rfl
          case hrx4r => kernel_rfl
          case hQx4r => exact fun _ _ _ h => h
          case hwx4r => rfl
          case hyx4r =>
            intro W hW
            have tt := ST.out W b7 ((hW.block _ LB7.out).trans M1.out)
            go_simp
            try with_reducible rfl
          simp only [Act.put, List.setIfInBounds_toArray, List.set_cons_succ, List.set_cons_zero]
          refine' wpAnyH_take (i := 5) ?h1x5r ?hsx5r ?hfx5r ?hrx5r ?hQx5r (Or.inl ⟨?hwx5r, ?hyx5r⟩) hS ?restx5r
          case h1x5r => (simp only [List.getElem?_toArray, List.getElem?_cons_succ, List.getElem?_cons_zero]; rfl)
          case hsx5r => kernel_rfl
          case hfx5r => kernel_rfl
          case hrx5r => kernel_rfl
          case hQx5r => exact fun _ _ _ h => h
          case hwx5r => rfl
          case hyx5r =>
            intro W hW
            go_simp
            try with_reducible rfl
          simp only [Act.put, List.setIfInBounds_toArray, List.set_cons_succ, List.set_cons_zero]
          refine' wpAnyH_take (i := 6) ?h1x6r ?hsx6r ?hfx6r ?hrx6r ?hQx6r (Or.inl ⟨?hwx6r, ?hyx6r⟩) hS ?restx6r
          case h1x6r => (simp only [List.getElem?_toArray, List.getElem?_cons_succ, List.getElem?_cons_zero]; rfl)
          case hsx6r => kernel_rfl
          case hfx6r => kernel_rfl
          case hrx6r => kernel_rfl
          case hQx6r => exact fun _ _ _ h => h
          case hwx6r => rfl
          case hyx6r =>
            intro W hW
            have ti : (s3 : Int) < 4 := by omega
            go_simp
            try with_reducible rfl
          simp only [Act.put, List.setIfInBounds_toArray, List.set_cons_succ, List.set_cons_zero]
          refine' wpAnyH_take (i := 7) ?h1x7r ?hsx7r ?hfx7r ?hrx7r ?hQx7r (Or.inl ⟨?hwx7r, ?hyx7r⟩) hS ?restx7r
          case h1x7r => (simp only [List.getElem?_toArray, List.getElem?_cons_succ, List.getElem?_cons_zero]; rfl)
          case hsx7r => kernel_rfl
          case hfx7r => kernel_rfl
          case hrx7r => kernel_rfl
          case hQx7r => exact fun _ _ _ h => h
          case hwx7r => rfl
          case hyx7r =>
            intro W hW
            have tt := A7.out W hW
            go_simp
            try with_reducible rfl
          simp only [Act.put, List.setIfInBounds_toArray, List.set_cons_succ, List.set_cons_zero]
          refine wpAnyH_ready (rs := [8]) (by kernel_rfl) (by simp) ?_
          refine' AllReadyH.cons ?hoc8r (fun K hK => ?stc8r) AllReadyH.nil
          case hoc8r => (simp only [List.getElem?_toArray, List.getElem?_cons_succ, List.getElem?_cons_zero]; rfl)
          go_simp
          refine (fullAny Y 0 512 (.inr ⟨by omega, rfl⟩) _).mono ?_
          rintro e w9 ⟨b9, rfl, m9, _, hb⟩
          go_wp2_with fail
          refine hK.out _ _ (hS.trans (hb.mono hS.size)) (fun hHeld => ?_)
          clear hK K
          try simp only [Act.put, List.setIfInBounds_toArray, List.set_cons_succ, List.set_cons_zero]
          have t9 := ST.out _ b9 m9
          clear m9
          clear hS hb
          have hS := hHeld
          clear hHeld
          refine wpAnyH_ready (rs := [9]) (by kernel_rfl) (by simp) ?_
          refine' AllReadyH.cons ?hoc9r (fun K hK => ?stc9r) AllReadyH.nil
          case hoc9r => (simp only [List.getElem?_toArray, List.getElem?_cons_succ, List.getElem?_cons_zero]; rfl)
          go_simp
          refine hK.out _ _ hS (fun hHeld => ?_)
          clear hK K hHeld t9
          try simp only [Act.put, List.setIfInBounds_toArray, List.set_cons_succ, List.set_cons_zero]
          refine' wpAnyH_take (i := 10) ?h1x10r ?hsx10r ?hfx10r ?hrx10r ?hQx10r (Or.inl ⟨?hwx10r, ?hyx10r⟩) hS ?restx10r
          case h1x10r => (simp only [List.getElem?_toArray, List.getElem?_cons_succ, List.getElem?_cons_zero]; rfl)
          case hsx10r => kernel_rfl
          case hfx10r => kernel_rfl
          case hrx10r => kernel_rfl
          case hQx10r => exact fun _ _ _ h => h
          case hwx10r => rfl
          case hyx10r =>
            intro W hW
            go_simp
            try with_reducible rfl
          simp only [Act.put, List.setIfInBounds_toArray, List.set_cons_succ, List.set_cons_zero]
          refine' wpAnyH_take (i := 11) ?h1x11r ?hsx11r ?hfx11r ?hrx11r ?hQx11r (Or.inl ⟨?hwx11r, ?hyx11r⟩) hS ?restx11r
          case h1x11r => (simp only [List.getElem?_toArray, List.getElem?_cons_succ, List.getElem?_cons_zero]; rfl)
          case hsx11r => kernel_rfl
          case hfx11r => kernel_rfl
          case hrx11r => kernel_rfl
          case hQx11r => exact fun _ _ _ h => h
          case hwx11r => rfl
          case hyx11r =>
            intro W hW
            go_simp
            try with_reducible rfl
          simp only [Act.put, List.setIfInBounds_toArray, List.set_cons_succ, List.set_cons_zero]
          refine wpAnyH_done (by kernel_rfl) ?_ _
          go_wp2_with fail
          go_roundg (min l 100 - (j + 1))
          case measure => have := HR.out; omega
          case rel => exact ⟨j + 1, _, _, _, _, _, _, by omega, by go_num, L7.out.below hS, H7.out.below hS, by have := CB.out; omega, by have := CB.out; omega, by have := CB.out; omega⟩
    · by_cases hj1 : j < l
      · have hj2 : ¬ j < 100 := by omega
        go_wp2_with fail
        refine (aliveD _).mono ?_
        rintro e w8 ⟨rfl, hb⟩
        have B8 := Lib.hid (S.out.b.trans (hb.mono S.out.b.size))
        clear hb
        go_wp2_with fail
        go_ret
        exact ⟨rfl, B8.out⟩
      · go_wp2_with fail
        refine (aliveD _).mono ?_
        rintro e w8 ⟨rfl, hb⟩
        have B8 := Lib.hid (S.out.b.trans (hb.mono S.out.b.size))
        clear hb
        go_wp2_with fail
        go_ret
        exact ⟨rfl, B8.out⟩

set_option maxRecDepth 100000 in
theorem lifted (os : Os) (started : os.Started) (H : Type) (enc : TypeId × Value → H) :
    ReturnsInHanded {} Try.checked os 6 .any (Rows.diskShowsSpec.pre6 enc Try.prog Try.f6 Rows.diskShowsRow.domain false) (Rows.diskShowsSpec.post enc Try.prog Try.f6 false true false false) := by
  refine returnsInHanded_of_change (C := Try.checked) own started (by kernel_rfl) Try.func6
    (ChangeSpec.witness6 (enc := enc) (C := Try.checked) false ⟨#[], #[.slice none 0 0], []⟩ 8 (by kernel_rfl) (by kernel_rfl) (by kernel_rfl) (by kernel_rfl)) ?_
  intro W base args ds gs before hval0 hW hcnd _
  have hval : ∀ (j : Nat) t v, Try.f6.params[j]? = some t → args[j]? = some v → Value.okWide Try.prog W .any base t v := hval0
  have hW' := hW
  obtain ⟨p, q, hA0, hV, rfl, hfz, hnd⟩ := hW
  have hA : DataW.TrodAll enc Try.prog W 0 (fun _ => true) true Try.f6.params.toList args.toList ds p := hA0
  rw [Try.params6] at hA hval
  obtain ⟨v1, vs1, d1, ds1, p1, q1, hargs, rfl, rfl, h1, r1⟩ := trodAll_cons hA
  obtain ⟨rfl, rfl, rfl⟩ := trodAll_nil r1
  obtain rfl : args = #[v1] := by cases args; simp_all
  obtain ⟨rfl, rfl⟩ := trodVars_none hV
  obtain ⟨x1, l1, c1, rfl, s1⟩ := diskDown.open_os (hval 0 22 v1 rfl rfl) h1
  refine (walk x1 l1 c1 W s1).mono fun e W' ⟨he, hb⟩ => ?_
  subst he
  exact ⟨_, rfl, law_post hW' rfl rfl rfl (by kernel_rfl) hb⟩

/-- The statement. -/
theorem proved : Rows.DiskShowsSaid :=
  OpenClaim.holds_of_wide 6 Try.f6 rfl rfl rfl rfl rfl rfl rfl ⟨rfl, rfl, rfl, rfl, rfl⟩ rfl rfl rfl rfl rfl (by kernel_rfl) Try.func6 (by kernel_rfl)
    (of_decide_eq_true (by kernel_rfl)) (by unfold Func.isWrapper; first | (rw [if_pos (by decide +kernel)]; kernel_rfl) | (rw [if_neg (by decide +kernel)]; exact ⟨rfl, rfl⟩))
    (fun os started H enc _ => lifted os started H enc)
#print axioms proved
end diskShows
end Go.Proofs.Ytklhnibmpdaioaa
