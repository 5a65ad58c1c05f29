/-
  Contracts of the functions that the statements of package sha go through: what a block makes of the eight numbers. Condition: the block has 64 bytes, the eight numbers fit, and the sixty-four numbers lie in their variable.
-/
import Derived.Test.YtjdamlmoegippaaDoorHlWords
namespace Go.Proofs.YtjdamlmoegippaaDoor.hl
open Go.RowKit
theorem idx59 (W : List Int) (hW : W.length = 64) (k : Nat) (hk : k < 64) (w : World) : (Instr.index 133 (.agg (ucells W)) (.int .i64 k)).run Tryd.prog w = .ok (.int .u32 (nth W k)) w := by
  have hc : (ucells W)[k]? = some (.int .u32 (nth W k)) := by simp [ucells, nth, List.getD, hW, hk]
  simp [Instr.index, run_underlying Tryd.underlying133, asIntOf, part, hk, hc]
structure St where
  a : Int
  b : Int
  c : Int
  d : Int
  e : Int
  f : Int
  g : Int
  h : Int
def St.list (s : St) : List Int := [s.a, s.b, s.c, s.d, s.e, s.f, s.g, s.h]
def St.ok (s : St) : Prop := (0 ≤ s.a ∧ s.a ≤ 4294967295) ∧ (0 ≤ s.b ∧ s.b ≤ 4294967295) ∧ (0 ≤ s.c ∧ s.c ≤ 4294967295) ∧ (0 ≤ s.d ∧ s.d ≤ 4294967295) ∧ (0 ≤ s.e ∧ s.e ≤ 4294967295) ∧ (0 ≤ s.f ∧ s.f ≤ 4294967295) ∧ (0 ≤ s.g ∧ s.g ≤ 4294967295) ∧ (0 ≤ s.h ∧ s.h ≤ 4294967295)
def bs1 (e : Int) : Int := bits .xor .u32 (bits .xor .u32 (rot 6 e) (rot 11 e)) (rot 25 e)
def bs0 (a : Int) : Int := bits .xor .u32 (bits .xor .u32 (rot 2 a) (rot 13 a)) (rot 22 a)
def chs (e f g : Int) : Int := bits .xor .u32 (bits .and .u32 e f) (bits .and .u32 (bits .xor .u32 IntKind.u32.max e) g)
def maj (a b c : Int) : Int := bits .xor .u32 (bits .xor .u32 (bits .and .u32 a b) (bits .and .u32 a c)) (bits .and .u32 b c)
def step (s : St) (kk ww : Int) : St :=
  { a := ((s.h + bs1 s.e + chs s.e s.f s.g + kk + ww) % 4294967296 + (bs0 s.a + maj s.a s.b s.c) % 4294967296) % 4294967296, b := s.a, c := s.b, d := s.c,
    e := (s.d + (s.h + bs1 s.e + chs s.e s.f s.g + kk + ww) % 4294967296) % 4294967296, f := s.e, g := s.f, h := s.g }
def sts (KK WW : List Int) (s : St) : Nat → St
  | 0 => s
  | k + 1 => step (sts KK WW s k) (nth KK k) (nth WW k)
def fin (X Y : List Int) (n : Nat) : List Int := (List.range 8).map fun i => if i < n then (nth Y i + nth X i) % 4294967296 else nth Y i
theorem fin_cell (X Y : List Int) (n j : Nat) (hj : j < 8) (h : n ≤ j) : (ucells (fin X Y n))[j]? = some (.int .u32 (nth Y j)) := by
  simp [ucells, fin, hj, Nat.not_lt.2 h]
theorem fin_set (X Y : List Int) (n : Nat) (hn : n < 8) : (ucells (fin X Y n)).setIfInBounds n (.int .u32 ((nth Y n + nth X n) % 4294967296)) = ucells (fin X Y (n + 1)) := by
  apply Array.ext_getElem?
  intro j
  rw [Array.getElem?_setIfInBounds]
  by_cases hj : j < 8
  · by_cases e : n = j
    · subst e
      simp [ucells, fin, hn]
    · rw [if_neg e]
      have : (j < n ↔ j < n + 1) := by omega
      simp [ucells, fin, hj, this]
  · have e : n ≠ j := by omega
    rw [if_neg e]
    simp [ucells, fin, hj]
theorem step_ok (s : St) (kk ww : Int) (h : s.ok) : (step s kk ww).ok := by
  obtain ⟨h1, h2, h3, h4, h5, h6, h7, h8⟩ := h
  exact ⟨⟨by simp only [step]; omega, by simp only [step]; omega⟩, h1, h2, h3, ⟨by simp only [step]; omega, by simp only [step]; omega⟩, h5, h6, h7⟩
theorem sts_ok (KK WW : List Int) (s : St) (h : s.ok) : ∀ k, (sts KK WW s k).ok
  | 0 => h
  | k + 1 => step_ok _ _ _ (sts_ok KK WW s h k)
set_option maxRecDepth 100000 in
set_option maxHeartbeats 4000000 in
theorem take (KK : List Int) (hKK : U32 KK) (a b c d e f g h : Int) (hu : U32 [a, b, c, d, e, f, g, h]) (B : List Int) (hB : B.length = 64) (hb : Byt B) (w : World) (hK : ∀ j, j < 64 → w.cell? ⟨1, j, none⟩ = some (.int .u32 (nth KK j))) (h1w : 1 < w.heap.size) :
    Calls Tryd.prog 67 #[.agg #[.int .u32 a, .int .u32 b, .int .u32 c, .int .u32 d, .int .u32 e, .int .u32 f, .int .u32 g, .int .u32 h], .agg (bcells B)] w
      fun e1 w' => e1 = .returned (.agg (ucells (fin [a, b, c, d, e, f, g, h] (sts KK (wl B 64) ⟨a, b, c, d, e, f, g, h⟩ 64).list 8))) ∧ Below w.heap.size w w' := by
  have i41 : (Tryd.prog.info? 92).map (·.size) = some (bcells B).size := by
    have : (Tryd.prog.info? 92).map (·.size) = some 64 := by kernel_rfl
    rw [this]; simp [bcells, hB]
  have I41 := Lib.hid i41
  have HK := Lib.hid hK
  clear i41 hK
  go_enter Tryd.func67, Tryd.ntmps67
  go_wp2_with fail
  go_quiet (fail)
  generalize hW1 : (((w.alloc (.cells #[.int .u32 a, .int .u32 b, .int .u32 c, .int .u32 d, .int .u32 e, .int .u32 f, .int .u32 g, .int .u32 h] 127)).alloc (.cells (bcells B) 92)).alloc (.cells #[.int .u32 0, .int .u32 0, .int .u32 0, .int .u32 0, .int .u32 0, .int .u32 0, .int .u32 0, .int .u32 0] 127)).drewN nq = W1
  have g1 : W1.heap[w.heap.size]? = some (.cells #[.int .u32 a, .int .u32 b, .int .u32 c, .int .u32 d, .int .u32 e, .int .u32 f, .int .u32 g, .int .u32 h] 127 (0, 0)) := by
    rw [← hW1]
    show (World.alloc _ _).heap[_]? = _
    rw [Below.heap_alloc _ _ _ (by simp; omega), Below.heap_alloc _ _ _ (by simp)]; exact heap_alloc_new w _
  have g2 : W1.heap[w.heap.size + 1]? = some (.cells (bcells B) 92 (0, 0)) := by
    rw [← hW1]
    show (World.alloc _ _).heap[_]? = _
    rw [Below.heap_alloc _ _ _ (by simp)]; exact heap_alloc2_new w _ _
  have g3 : W1.heap[w.heap.size + 1 + 1]? = some (.cells #[.int .u32 0, .int .u32 0, .int .u32 0, .int .u32 0, .int .u32 0, .int .u32 0, .int .u32 0, .int .u32 0] 127 (0, 0)) := by
    rw [← hW1]
    show (World.alloc _ _).heap[_]? = _
    have := heap_alloc_new ((w.alloc (.cells #[.int .u32 a, .int .u32 b, .int .u32 c, .int .u32 d, .int .u32 e, .int .u32 f, .int .u32 g, .int .u32 h] 127)).alloc (.cells (bcells B) 92)) (.cells #[.int .u32 0, .int .u32 0, .int .u32 0, .int .u32 0, .int .u32 0, .int .u32 0, .int .u32 0, .int .u32 0] 127)
    simpa using this
  have hz1 : W1.heap.size = w.heap.size + 1 + 1 + 1 := by rw [← hW1]; simp
  have B1 : Hid (Below w.heap.size w W1) := by
    show Below _ _ _
    rw [← hW1]
    have h0 := (((Below.refl w.heap.size w).alloc (Nat.le_refl _) (.cells #[.int .u32 a, .int .u32 b, .int .u32 c, .int .u32 d, .int .u32 e, .int .u32 f, .int .u32 g, .int .u32 h] 127)).alloc (by simp) (.cells (bcells B) 92)).alloc (by simp; omega) (.cells #[.int .u32 0, .int .u32 0, .int .u32 0, .int .u32 0, .int .u32 0, .int .u32 0, .int .u32 0, .int .u32 0] 127)
    exact h0.trans ⟨rfl, rfl, rfl, Nat.le_refl _, fun _ _ => rfl⟩
  clear hW1
  have G1 := Lib.hid g1
  have G2 := Lib.hid g2
  have G3 := Lib.hid g3
  have HZ := Lib.hid hz1
  clear g1 g2 g3 hz1
  go_wp2_with (refine wpList_load_row rfl 92 _ rfl (w.heap.size + 1) rfl 92 (bcells B) (0, 0) _ G2.out Tryd.underlying92 rfl I41.out ?_)
  obtain ⟨WL, hWL⟩ : ∃ W, W = wl B 64 := ⟨_, rfl⟩
  have H5 : Hid (U32 WL) := by show U32 WL; rw [hWL]; exact wl_u32 B hB hb 64
  have H6 : Hid (WL.length = 64) := by show _ = _; rw [hWL]; exact wl_len B 64
  have HWD := Lib.hid (words B hB hb)
  rw [← hWL] at HWD
  have HWL := Lib.hid hWL
  clear hWL
  refine (HWD.out _).mono ?_
  rintro e w2 ⟨rfl, hbel⟩
  have B2 := Lib.hid hbel
  clear hbel
  go_wp2_with fail
  have hs0 : St.ok ⟨a, b, c, d, e, f, g, h⟩ := ⟨hu _ (by simp), hu _ (by simp), hu _ (by simp), hu _ (by simp), hu _ (by simp), hu _ (by simp), hu _ (by simp), hu _ (by simp)⟩
  have HS0 := Lib.hid hs0
  clear hs0
  go_loop [5, 6, 7, 8, 9, 10, 11, 12, 39] (fun va vb vc vd ve vf vg vh i => ∃ (k : Nat) (s : St), k ≤ 64 ∧ i = .int .i64 k ∧ s = sts KK WL ⟨a, b, c, d, e, f, g, h⟩ k ∧ va = .int .u32 s.a ∧ vb = .int .u32 s.b ∧ vc = .int .u32 s.c ∧ vd = .int .u32 s.d ∧ ve = .int .u32 s.e ∧ vf = .int .u32 s.f ∧ vg = .int .u32 s.g ∧ vh = .int .u32 s.h) (fun _ _ _ _ _ _ _ _ i => 64 - (intOf i).toNat)
  case atStart => exact ⟨0, ⟨a, b, c, d, e, f, g, h⟩, by omega, rfl, rfl, rfl, rfl, rfl, rfl, rfl, rfl, rfl, rfl⟩
  case round =>
    obtain ⟨k, s, hk, rfl, hs, rfl, rfl, rfl, rfl, rfl, rfl, rfl, rfl⟩ := hrel
    have hok : s.ok := by rw [hs]; exact sts_ok _ _ _ HS0.out k
    have HS := Lib.hid hs
    clear hs
    by_cases hlt : k < 64
    · have hw := H5.out.nth k
      have hkk := hKK.nth k
      have hi := idx59 WL H6.out k hlt
      have hc := (B2.out.cell (p := ⟨1, k, none⟩) (by have := HZ.out; simp; omega)).trans ((B1.out.cell (p := ⟨1, k, none⟩) h1w).trans (HK.out k hlt))
      have HSt : Hid (sts KK WL ⟨a, b, c, d, e, f, g, h⟩ (k + 1) = step s (nth KK k) (nth WL k)) := by show _ = _; rw [sts, ← HS.out]
      obtain ⟨⟨a0, a1⟩, ⟨b0, b1⟩, ⟨c0, c1⟩, ⟨d0, d1⟩, ⟨e0, e1⟩, ⟨f0, f1⟩, ⟨j0, j1⟩, ⟨h0, h1⟩⟩ := hok
      obtain ⟨w0, w1⟩ := hw
      obtain ⟨k0, k1⟩ := hkk
      generalize nth WL k = ww at hi w0 w1 HSt
      generalize nth KK k = kk at hc k0 k1 HSt
      have q1 := bits_u32 .xor (bits .xor .u32 (rot 6 s.e) (rot 11 s.e)) (rot 25 s.e)
      have q2 := bits_u32 .xor (bits .xor .u32 (rot 2 s.a) (rot 13 s.a)) (rot 22 s.a)
      have q3 := bits_u32 .xor (bits .and .u32 s.e s.f) (bits .and .u32 (bits .xor .u32 IntKind.u32.max s.e) s.g)
      have q4 := bits_u32 .xor (bits .xor .u32 (bits .and .u32 s.a s.b) (bits .and .u32 s.a s.c)) (bits .and .u32 s.b s.c)
      obtain ⟨q1a, q1b⟩ := q1
      obtain ⟨q2a, q2b⟩ := q2
      obtain ⟨q3a, q3b⟩ := q3
      obtain ⟨q4a, q4b⟩ := q4
      have hsg : IntKind.u32.signed = false := rfl
      go_wp2_with fail
      refine (turned6 _ _).mono ?_
      rintro e w' ⟨rfl, rfl⟩
      go_wp2_with fail
      refine (turned11 _ _).mono ?_
      rintro e w' ⟨rfl, rfl⟩
      go_wp2_with fail
      refine (turned25 _ _).mono ?_
      rintro e w' ⟨rfl, rfl⟩
      go_wp2_with fail
      refine (turned2 _ _).mono ?_
      rintro e w' ⟨rfl, rfl⟩
      go_wp2_with fail
      refine (turned13 _ _).mono ?_
      rintro e w' ⟨rfl, rfl⟩
      go_wp2_with fail
      refine (turned22 _ _).mono ?_
      rintro e w' ⟨rfl, rfl⟩
      go_wp2_with fail
      go_round
      case rel => exact ⟨k + 1, step s kk ww, by omega, by go_num, HSt.out.symm, rfl, rfl, rfl, rfl, rfl, rfl, rfl, rfl⟩
      case measure => simp [intOf]; omega
    · have hk64 : 64 ≤ k := by omega
      obtain ⟨⟨a0, a1⟩, ⟨b0, b1⟩, ⟨c0, c1⟩, ⟨d0, d1⟩, ⟨e0, e1⟩, ⟨f0, f1⟩, ⟨j0, j1⟩, ⟨h0, h1⟩⟩ := hok
      have hsz := HZ.out
      have hsz2 : W1.heap.size ≤ w2.heap.size := B2.out.size
      go_wp2_with fail
      have hY : (#[.int .u32 s.a, .int .u32 s.b, .int .u32 s.c, .int .u32 s.d, .int .u32 s.e, .int .u32 s.f, .int .u32 s.g, .int .u32 s.h] : Array Value) = ucells (fin [a, b, c, d, e, f, g, h] [s.a, s.b, s.c, s.d, s.e, s.f, s.g, s.h] 0) := rfl
      have hX : (#[.int .u32 a, .int .u32 b, .int .u32 c, .int .u32 d, .int .u32 e, .int .u32 f, .int .u32 g, .int .u32 h] : Array Value) = ucells [a, b, c, d, e, f, g, h] := rfl
      have hul : U32 [s.a, s.b, s.c, s.d, s.e, s.f, s.g, s.h] := fun z hz => by
        simp only [List.mem_cons, List.not_mem_nil, or_false] at hz
        rcases hz with rfl | rfl | rfl | rfl | rfl | rfl | rfl | rfl <;> omega
      have G1b := G1.out
      rw [hX] at G1b
      have hXl : [a, b, c, d, e, f, g, h].length = 8 := rfl
      rw [hY]
      have HSF := Lib.hid HS.out
      generalize hxx : [a, b, c, d, e, f, g, h] = X at G1b hXl hu ⊢
      generalize hyy : [s.a, s.b, s.c, s.d, s.e, s.f, s.g, s.h] = Y at hul ⊢
      have HXX := Lib.hid hxx
      have HYY := Lib.hid hyy
      clear hX hY hxx hyy HS
      have HG1 := Lib.hid G1b
      clear G1b
      go_loopw [112] (fun i wr => ∃ n : Nat, n ≤ 8 ∧ i = .int .i64 n ∧ wr.heap[w2.heap.size]? = some (.cells (ucells (fin X Y n)) 127 (0, 0)) ∧ wr.heap[w.heap.size]? = some (.cells (ucells X) 127 (0, 0)) ∧
        wr.heap[w.heap.size + 1 + 1]? = some (.cells #[.int .u32 0, .int .u32 0, .int .u32 0, .int .u32 0, .int .u32 0, .int .u32 0, .int .u32 0, .int .u32 0] 127 (0, 0)) ∧ Below w.heap.size w wr) (fun i _ => 8 - (intOf i).toNat)
      case atStart =>
        refine ⟨0, by omega, rfl, heap_alloc_new w2 _, ?_, ?_, ?_⟩
        · rw [Below.heap_alloc _ _ _ (by omega), B2.out.block _ (by omega)]; exact HG1.out
        · rw [Below.heap_alloc _ _ _ (by omega), B2.out.block _ (by omega)]; exact G3.out
        · exact (B1.out.trans (B2.out.mono (by omega))).alloc (by omega) _
      case round =>
        obtain ⟨n, hn, rfl, hg5, hg1, hg3, hbel⟩ := hrel
        by_cases hlt : n < 8
        · have y1 := (cell_of_row _ _ n _ _ _ hg5).trans (fin_cell X Y n n hlt (Nat.le_refl _))
          have xx1 : wr.cell? ⟨w.heap.size, n, none⟩ = some (.int .u32 (nth X n)) := by
            rw [cell_of_row _ _ n _ _ _ hg1]
            simp [ucells, nth, List.getD, hXl, hlt]
          have fz := frozen_of_row wr (w2.heap.size) n _ 127 hg5
          have r1 := hul.nth n
          have r2 := hu.nth n
          have HS5 : Hid ((ucells (fin X Y n)).setIfInBounds n (.int .u32 ((nth Y n + nth X n) % 4294967296)) = ucells (fin X Y (n + 1))) := fin_set X Y n hlt
          have G5 := Lib.hid hg5
          have G1c := Lib.hid hg1
          have G3c := Lib.hid hg3
          have HBB := Lib.hid hbel
          generalize nth Y n = yy at y1 r1 HS5
          generalize nth X n = xv at xx1 r2 HS5
          obtain ⟨r1a, r1b⟩ := r1
          obtain ⟨r2a, r2b⟩ := r2
          clear hg5 hg1 hg3 hbel
          go_wp2_with fail
          go_region
          all_goals
            go_wp2_with fail
            go_roundw
            case rel =>
              refine ⟨n + 1, by omega, by go_num, ?_, ?_, ?_, (HBB.out.setCell (by simp; omega) _).drew⟩
              · show (wr.setCell _ _).heap[_]? = _
                rw [heap_setCell_same _ _ _ _ _ _ G5.out, HS5.out]
              · show (wr.setCell _ _).heap[_]? = _
                rw [heap_setCell_other _ _ _ _ (by simp; omega)]
                exact G1c.out
              · show (wr.setCell _ _).heap[_]? = _
                rw [heap_setCell_other _ _ _ _ (by simp; omega)]
                exact G3c.out
            case measure => simp [intOf]; omega
        · obtain rfl : n = 8 := by omega
          have HBB := Lib.hid hbel
          have i40 : (Tryd.prog.info? 127).map (·.size) = some (ucells (fin X Y 8)).size := by
            have : (Tryd.prog.info? 127).map (·.size) = some 8 := by kernel_rfl
            rw [this]; simp [ucells, fin]
          have hs8 : (#[.int .u32 0, .int .u32 0, .int .u32 0, .int .u32 0, .int .u32 0, .int .u32 0, .int .u32 0, .int .u32 0] : Array Value).size = (ucells (fin X Y 8)).size := by simp [ucells, fin]
          have hone : (ucells (fin X Y 8)).all (·.oneCell') = true := by simp [ucells, Value.oneCell']
          clear hbel hg1
          go_wp2_with (first
            | (refine wpList_load_row rfl 127 _ rfl (w2.heap.size) rfl 127 _ (0, 0) _ hg5 Tryd.underlying127 rfl i40 ?_)
            | (refine wpList_store_row rfl 127 _ _ rfl (w.heap.size + 1 + 1) _ rfl rfl 127 _ hg3 i40 hs8 hone ?_))
          refine bodyPost_ret (v := .agg (ucells (fin X Y 8))) (results_cell_row Tryd.results67 _ _ (w.heap.size + 1 + 1) 127 _ (0, 0) _ rfl (setRow_heap _ _ _ _ _ _ hg3) Tryd.underlying127 rfl i40) rfl ⟨?_, HBB.out.trans (below_row _ _ (by omega))⟩
          have hk : k = 64 := by omega
          rw [← HXX.out, ← HYY.out, HSF.out, hk, HWL.out]
          rfl
end Go.Proofs.YtjdamlmoegippaaDoor.hl
