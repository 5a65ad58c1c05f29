/-
  For every size, every slice of ops and every int the law BitsLives of package casematelaw12 returns true, and the arguments read afterwards as before: whatever is held and dropped, a row tells what the document says. Condition: none.
-/
import Derived.Test.YtklhnibmpdaioaaY
import Derived.Deep.RegionHeld3
namespace Go.Proofs.Ytklhnibmpdaioaa.bitsLives
open Go.ChangeShapes Go.WideShapes Go.ChangeAt Go.RowKit
theorem walk_big (n : Int) (h : 500 < n) (h' : n ≤ 65536) (x : Option Addr) (l c : Nat) (a : Int) (w : World) :
    Calls Try.prog 8 #[.int .i64 n, .slice x l c, .int .i64 a] w fun e w' => e = .returned (.bool true) ∧ Below w.heap.size w w' := by
  go_enter Try.func8, Try.ntmps8
  go_wp2_with fail
  refine (aliveB _).mono ?_
  rintro e w2 ⟨rfl, hb2⟩
  have HB := Lib.hid hb2
  clear hb2
  go_wp2_with fail
  go_ret
  exact ⟨rfl, HB.out⟩
set_option maxRecDepth 100000 in
theorem walk_no (n : Int) (h : n < 1 ∨ 65536 < n) (x : Option Addr) (l c : Nat) (a : Int) (w : World) :
    Calls Try.prog 8 #[.int .i64 n, .slice x l c, .int .i64 a] w fun e w' => e = .returned (.bool true) ∧ Below w.heap.size w w' := by
  have N1 := Lib.hid (newB_no n h w)
  have N2 := Lib.hid (newX_no n h w)
  have h1 : ¬ (500 < n ∧ n ≤ 65536) := by omega
  by_cases h5 : 500 < n
  case' pos => have h6 : ¬ n ≤ 65536 := by omega
  all_goals
    by_cases hl0 : 0 < l
    all_goals
      clear h h1
      go_enter Try.func8, Try.ntmps8
      go_wp2_with fail
      refine N1.out.mono ?_
      rintro e w' ⟨rfl, rfl⟩
      go_wp2_with fail
      refine N2.out.mono ?_
      rintro e w' ⟨rfl, rfl⟩
      go_wp2_with fail
      refine wp_loop_rounds 1 ?_
      rw [rounds_succ]
      go_wp2_with fail
      refine (aliveB _).mono ?_
      rintro e w2 ⟨rfl, hb2⟩
      have HB := Lib.hid hb2
      clear hb2
      go_wp2_with fail
      go_ret
      exact ⟨rfl, HB.out⟩
/-- Both rows, apart. -/
structure Both (w0 w : World) (g N mb wb gx lb : Nat) (f : Nat → Nat) : Prop where
  r : BR w g N mb wb f
  x : XR w gx N lb f
  ap : gx ≠ mb ∧ gx ≠ wb ∧ lb ≠ g ∧ lb ≠ mb ∧ lb ≠ wb
  ge : w0.heap.size ≤ mb ∧ w0.heap.size ≤ wb ∧ w0.heap.size ≤ lb
  hb : Below w0.heap.size w0 w
/-- An op in memory. -/
structure Opc (w : World) (q mb wb lb : Nat) (k i : Int) : Prop where
  row : w.heap[q]? = some (.cells #[.int .i64 k, .int .i64 i] 72 (0, 0))
  ap : q ≠ mb ∧ q ≠ wb ∧ q ≠ lb
section
variable {w w' : World} {q mb wb lb : Nat} {k i : Int}
theorem Opc.lt (h : Opc w q mb wb lb k i) : q < w.heap.size := (Array.getElem?_eq_some_iff.1 h.row).1
theorem Opc.c0 (h : Opc w q mb wb lb k i) : w.cell? ⟨q, 0, none⟩ = some (.int .i64 k) := by rw [cell_of_row _ _ _ _ _ _ h.row]; rfl
theorem Opc.c1 (h : Opc w q mb wb lb k i) : w.cell? ⟨q, 1, none⟩ = some (.int .i64 i) := by rw [cell_of_row _ _ _ _ _ _ h.row]; rfl
theorem Opc.bt (h : Opc w q mb wb lb k i) (m : Mods (Bt mb wb) w w') : Opc w' q mb wb lb k i := ⟨(m.block q h.lt (by have := h.ap; unfold Bt; omega)).trans h.row, h.ap⟩
theorem Opc.xb (h : Opc w q mb wb lb k i) (m : Mods (fun b => b = lb) w w') : Opc w' q mb wb lb k i := ⟨(m.block q h.lt (by have := h.ap; omega)).trans h.row, h.ap⟩
end
section
variable {w0 w w' w'' : World} {g N mb wb gx lb : Nat} {f f' : Nat → Nat}
theorem Both.below (h : Both w0 w g N mb wb gx lb f) (hb : Below w.heap.size w w') : Both w0 w' g N mb wb gx lb f :=
  ⟨h.r.below hb, h.x.below hb, h.ap, h.ge, h.hb.trans (hb.mono h.hb.size)⟩
theorem Both.turn (h : Both w0 w g N mb wb gx lb f) (m : Mods (Bt mb wb) w w') : XR w' gx N lb f ∧ Below w0.heap.size w0 w' :=
  ⟨h.x.mods m (by have := h.ap; unfold Bt; omega) (by have := h.ap; unfold Bt; omega), mods_below h.hb m h.hb.size h.ge.1 h.ge.2.1⟩
theorem Both.turn2 (h : Both w0 w g N mb wb gx lb f) (r : BR w' g N mb wb f') (m : Mods (Bt mb wb) w w') (x : XR w'' gx N lb f') (m2 : Mods (fun k => k = lb) w' w'') : Both w0 w'' g N mb wb gx lb f' := by
  have hb := (h.turn m).2
  refine ⟨r.mods m2 (by have := h.ap; omega) (by have := h.ap; omega) (by have := h.ap; omega), x, h.ap, h.ge, ?_⟩
  exact Mods.below hb m2 hb.size (fun b hb => by rw [hb]; exact h.ge.2.2)
end
set_option maxRecDepth 100000 in
set_option maxHeartbeats 16000000 in
theorem walk_in (N : Nat) (hN1 : 1 ≤ N) (hN2 : N ≤ 500) (lv : Value) (L : Nat) (F : Nat → Nat → Int) (a : Int) (a0 : -9223372036854775808 ≤ a) (a1 : a ≤ 9223372036854775807) (w : World) (h : SO 2 w lv L F) :
    Calls Try.prog 8 #[.int .i64 N, lv, .int .i64 a] w fun e w' => e = .returned (.bool true) ∧ Below w.heap.size w w' := by
  obtain ⟨x, c, rfl, hx1, hx2, hx3⟩ := h
  unfold maxLen at hx2
  have X := Lib.hid hx3
  have AB : Hid (-9223372036854775808 ≤ a ∧ a ≤ 9223372036854775807) := ⟨a0, a1⟩
  clear hx3 a0 a1
  go_enter Try.func8, Try.ntmps8
  go_wp2_with fail
  refine (newB N hN1 (by omega) w).mono ?_
  rintro e w1 ⟨g, mb, wb, rfl, r, h1, h2, h3, hb⟩
  have R1 := Lib.hid r
  have B1 := Lib.hid hb
  have Q : Hid (w.heap.size ≤ g ∧ w.heap.size ≤ mb ∧ w.heap.size ≤ wb ∧ g < w1.heap.size ∧ mb < w1.heap.size ∧ wb < w1.heap.size) := ⟨h1, h2, h3, r.lt, r.map.lt, r.wds.lt⟩
  clear r hb h1 h2 h3
  go_wp2_with fail
  refine (newX N hN1 (by omega) w1).mono ?_
  rintro e w2 ⟨gx, lb, rfl, xr, k1, k2, hb2⟩
  have S0 : Hid (Both w w2 g N mb wb gx lb (fun _ => 0)) := by
    have q := Q.out
    exact ⟨R1.out.below hb2, xr, by omega, by have := B1.out.size; omega, B1.out.trans (hb2.mono B1.out.size)⟩
  clear R1 B1 Q xr k1 k2 hb2
  go_wp2_with fail
  go_loopg [11, 12, 13, 14, 15, 16, 17, 18, 19, 20] (min L 200) (fun r vi _ _ _ _ _ _ _ _ _ wr => ∃ (i : Nat) (f : Nat → Nat), r + i = min L 200 ∧ vi = .int .i64 i ∧ Both w wr g N mb wb gx lb f)
  case atStart => exact ⟨0, _, by omega, rfl, S0.out⟩
  case round =>
    clear S0
    obtain ⟨i, f, hr, rfl, hs⟩ := hrel
    have S := Lib.hid hs
    clear hs
    by_cases hlt : i < L
    · by_cases h200 : i < 200
      · obtain ⟨p0, p1, b, o, rfl, hb1, hc0⟩ := X.out i 0 hlt (by omega)
        obtain ⟨p2, p3, b', o', he, _, hc1⟩ := X.out i 1 hlt (by omega)
        simp only [Option.some.injEq, Addr.mk.injEq] at he
        obtain ⟨rfl, rfl, _⟩ := he
        rw [Nat.add_zero] at hc0
        have hd0 : wr.cell? ⟨b, o + i * 2, none⟩ = some (.int .i64 (F i 0)) := (S.out.hb.cell (p := ⟨b, o + i * 2, none⟩) hb1).trans hc0
        have hd1 : wr.cell? ⟨b, o + (i * 2 + 1), none⟩ = some (.int .i64 (F i 1)) := (S.out.hb.cell (p := ⟨b, o + (i * 2 + 1), none⟩) hb1).trans hc1
        have hd2 : wr.cell? ⟨b, o + i * 2 + 1, none⟩ = some (.int .i64 (F i 1)) := by rw [Nat.add_assoc]; exact hd1
        generalize F i 0 = kd at *
        generalize F i 1 = xx at *
        have XB : Hid (-9223372036854775808 ≤ xx ∧ xx ≤ 9223372036854775807) := ⟨p2, p3⟩
        have HR := Lib.hid hr
        clear hr hc0 hc1 p0 p1 p2 p3
        go_wp2_with fail
        obtain ⟨q, hq⟩ : ∃ q, q = wr.heap.size := ⟨_, rfl⟩
        obtain ⟨v0, hv0⟩ : ∃ v0, v0 = wr.alloc (.cells #[.int .i64 kd, .int .i64 xx] 72) := ⟨_, rfl⟩
        have S1 : Hid (Both w v0 g N mb wb gx lb f) := by
          show Both _ _ _ _ _ _ _ _ _
          rw [hv0]
          exact S.out.below ((Below.refl _ _).alloc (Nat.le_refl _) _)
        have O1 : Hid (Opc v0 q mb wb lb kd xx) := by
          refine ⟨by rw [hv0, hq]; exact heap_alloc_new _ _, ?_⟩
          have h1 := S.out.r.map.lt
          have h2 := S.out.r.wds.lt
          have h3 := S.out.x.ints.lt
          omega
        rw [← hv0, ← hq]
        clear hv0 hq hd0 hd1 hd2 S
        have e0 := O1.out.c0
        have e1 := O1.out.c1
        refine (freeB S1.out.r xx).mono ?_
        rintro e w' ⟨p, bb, rfl, hf, rfl⟩
        have HF := Lib.hid hf
        clear hf
        go_wp2_with fail
        refine (freeX S1.out.x xx XB.out.2).mono ?_
        rintro e w' ⟨p', b', rfl, hf', rfl⟩
        obtain ⟨rfl, rfl⟩ := HF.out.one hf'
        clear hf' HF
        have D1 : Hid (Both w v0.drew g N mb wb gx lb f) := ⟨S1.out.r.heap rfl, S1.out.x.heap rfl, S1.out.ap, S1.out.ge, S1.out.hb.os, S1.out.hb.tape, S1.out.hb.output, S1.out.hb.size, S1.out.hb.block⟩
        have DN : Hid (∀ n, Both w (v0.drewN n) g N mb wb gx lb f) := fun n => ⟨S1.out.r.heap rfl, S1.out.x.heap rfl, S1.out.ap, S1.out.ge, S1.out.hb.os, S1.out.hb.tape, S1.out.hb.output, S1.out.hb.size, S1.out.hb.block⟩
        have ON : Hid (∀ n, Opc (v0.drewN n) q mb wb lb kd xx) := fun n => ⟨O1.out.row, O1.out.ap⟩
        by_cases k0 : kd = 0
        · have hk : (kd == 0) = true := by simp [k0]
          have hk1 : (kd == 1) = false := by simp [k0]
          have hk2 : (kd == 2) = false := by simp [k0]
          clear k0
          go_wp2_with fail
          go_region_held3 (fun W => W.cell? ⟨q, 0, none⟩ = some (.int .i64 kd) ∧ W.cell? ⟨q, 1, none⟩ = some (.int .i64 xx)) (go_keep)
            (first
              | (go_at_call 39; refine (holdAny D1.out.r xx).mono ?_; rintro e w3 ⟨rfl, r3, m3⟩; have R3 := Lib.hid r3; have M3 := Lib.hid m3; have O3 := Lib.hid (Opc.bt (w := v0.drew) ⟨O1.out.row, O1.out.ap⟩ M3.out); have f0 := O3.out.c0; have f1 := O3.out.c1; clear r3 m3)
              | (go_at_call 40; refine (holdX (D1.out.turn M3.out).1 xx).mono ?_; rintro e w4 ⟨rfl, x4, m4⟩; have S4 := Lib.hid (D1.out.turn2 R3.out M3.out x4 m4); have O4 := Lib.hid (O3.out.xb m4); have g0 := O4.out.c0; have g1 := O4.out.c1; clear x4 m4))
          go_wp2_with fail
          refine (timesB S4.out.r a AB.out.1 AB.out.2).mono ?_
          rintro e w' ⟨rfl, rfl⟩
          go_wp2_with fail
          refine (timesX S4.out.x a).mono ?_
          rintro e w' ⟨rfl, rfl⟩
          go_wp2_with fail
          refine (takenB S4.out.r).mono ?_
          rintro e w' ⟨rfl, rfl⟩
          go_wp2_with fail
          refine (takenX S4.out.x).mono ?_
          rintro e w' ⟨rfl, rfl⟩
          go_wp2_with fail
          refine (sizeB S4.out.r).mono ?_
          rintro e w' ⟨rfl, rfl⟩
          go_wp2_with fail
          go_roundg (min L 200 - (i + 1))
          case measure => have := HR.out; omega
          case rel => exact ⟨i + 1, _, by omega, by go_num, S4.out⟩
        · have hk : (kd == 0) = false := by simp [k0]
          have hkd : decide (kd = 0) = false := by simp [k0]
          go_wp2_with fail
          go_quiet (fail)
          by_cases k1 : kd = 1
          · have hk1 : (kd == 1) = true := by simp [k1]
            have hk2 : (kd == 2) = false := by simp [k1]
            clear k0 k1
            go_wp2_with fail
            refine (dropAny (DN.out _).r xx).mono ?_
            rintro e w3 ⟨rfl, r, m⟩
            have R3 := Lib.hid r
            have M3 := Lib.hid m
            have O3 := Lib.hid ((ON.out _).bt m)
            have X3 := Lib.hid ((DN.out _).turn m).1
            clear r m
            have f0 := O3.out.c0
            have f1 := O3.out.c1
            go_wp2_with fail
            refine (dropX X3.out xx).mono ?_
            rintro e w4 ⟨rfl, r, m⟩
            have S4 := Lib.hid ((DN.out _).turn2 R3.out M3.out r m)
            have O4 := Lib.hid (O3.out.xb m)
            clear r m f0 f1
            have f0 := O4.out.c0
            have f1 := O4.out.c1
            go_wp2_with fail
            refine (timesB S4.out.r a AB.out.1 AB.out.2).mono ?_
            rintro e w' ⟨rfl, rfl⟩
            go_wp2_with fail
            refine (timesX S4.out.x a).mono ?_
            rintro e w' ⟨rfl, rfl⟩
            go_wp2_with fail
            refine (takenB S4.out.r).mono ?_
            rintro e w' ⟨rfl, rfl⟩
            go_wp2_with fail
            refine (takenX S4.out.x).mono ?_
            rintro e w' ⟨rfl, rfl⟩
            go_wp2_with fail
            refine (sizeB S4.out.r).mono ?_
            rintro e w' ⟨rfl, rfl⟩
            go_wp2_with fail
            go_roundg (min L 200 - (i + 1))
            case measure => have := HR.out; omega
            case rel => exact ⟨i + 1, _, by omega, by go_num, S4.out⟩
          · by_cases k2 : kd = 2
            · have hk1 : (kd == 1) = false := by simp [k1]
              have hk2 : (kd == 2) = true := by simp [k2]
              clear k0 k1 k2
              cases bb with
              | true =>
                go_wp2_with fail
                refine (holdAny (DN.out _).r p).mono ?_
                rintro e w3 ⟨rfl, r, m⟩
                have R3 := Lib.hid r
                have M3 := Lib.hid m
                have O3 := Lib.hid ((ON.out _).bt m)
                have X3 := Lib.hid ((DN.out _).turn m).1
                clear r m
                have f0 := O3.out.c0
                have f1 := O3.out.c1
                go_wp2_with fail
                refine (holdX X3.out p).mono ?_
                rintro e w4 ⟨rfl, r, m⟩
                have S4 := Lib.hid ((DN.out _).turn2 R3.out M3.out r m)
                have O4 := Lib.hid (O3.out.xb m)
                clear r m f0 f1
                have f0 := O4.out.c0
                have f1 := O4.out.c1
                go_wp2_with fail
                refine (timesB S4.out.r a AB.out.1 AB.out.2).mono ?_
                rintro e w' ⟨rfl, rfl⟩
                go_wp2_with fail
                refine (timesX S4.out.x a).mono ?_
                rintro e w' ⟨rfl, rfl⟩
                go_wp2_with fail
                refine (takenB S4.out.r).mono ?_
                rintro e w' ⟨rfl, rfl⟩
                go_wp2_with fail
                refine (takenX S4.out.x).mono ?_
                rintro e w' ⟨rfl, rfl⟩
                go_wp2_with fail
                refine (sizeB S4.out.r).mono ?_
                rintro e w' ⟨rfl, rfl⟩
                go_wp2_with fail
                go_roundg (min L 200 - (i + 1))
                case measure => have := HR.out; omega
                case rel => exact ⟨i + 1, _, by omega, by go_num, S4.out⟩
              | false =>
                go_wp2_with fail
                refine (timesB (DN.out _).r a AB.out.1 AB.out.2).mono ?_
                rintro e w' ⟨rfl, rfl⟩
                go_wp2_with fail
                refine (timesX (DN.out _).x a).mono ?_
                rintro e w' ⟨rfl, rfl⟩
                go_wp2_with fail
                refine (takenB (DN.out _).r).mono ?_
                rintro e w' ⟨rfl, rfl⟩
                go_wp2_with fail
                refine (takenX (DN.out _).x).mono ?_
                rintro e w' ⟨rfl, rfl⟩
                go_wp2_with fail
                refine (sizeB (DN.out _).r).mono ?_
                rintro e w' ⟨rfl, rfl⟩
                go_wp2_with fail
                go_roundg (min L 200 - (i + 1))
                case measure => have := HR.out; omega
                case rel => exact ⟨i + 1, _, by omega, by go_num, (DN.out _)⟩
            · have hk1 : (kd == 1) = false := by simp [k1]
              have hk2 : (kd == 2) = false := by simp [k2]
              clear k0 k1 k2
              go_wp2_with fail
              refine (timesB (DN.out _).r a AB.out.1 AB.out.2).mono ?_
              rintro e w' ⟨rfl, rfl⟩
              go_wp2_with fail
              refine (timesX (DN.out _).x a).mono ?_
              rintro e w' ⟨rfl, rfl⟩
              go_wp2_with fail
              refine (takenB (DN.out _).r).mono ?_
              rintro e w' ⟨rfl, rfl⟩
              go_wp2_with fail
              refine (takenX (DN.out _).x).mono ?_
              rintro e w' ⟨rfl, rfl⟩
              go_wp2_with fail
              refine (sizeB (DN.out _).r).mono ?_
              rintro e w' ⟨rfl, rfl⟩
              go_wp2_with fail
              go_roundg (min L 200 - (i + 1))
              case measure => have := HR.out; omega
              case rel => exact ⟨i + 1, _, by omega, by go_num, (DN.out _)⟩
      · go_wp2_with fail
        refine (aliveB _).mono ?_
        rintro e w3 ⟨rfl, hb⟩
        have HB := Lib.hid (S.out.hb.trans (hb.mono S.out.hb.size))
        clear hb
        go_wp2_with fail
        go_ret
        exact ⟨rfl, HB.out⟩
    · go_wp2_with fail
      refine (aliveB _).mono ?_
      rintro e w3 ⟨rfl, hb⟩
      have HB := Lib.hid (S.out.hb.trans (hb.mono S.out.hb.size))
      clear hb
      go_wp2_with fail
      go_ret
      exact ⟨rfl, HB.out⟩
theorem walk (n : Int) (lv : Value) (L : Nat) (F : Nat → Nat → Int) (a : Int) (a0 : -9223372036854775808 ≤ a) (a1 : a ≤ 9223372036854775807) (w : World) (h : SO 2 w lv L F) :
    Calls Try.prog 8 #[.int .i64 n, lv, .int .i64 a] w fun e w' => e = .returned (.bool true) ∧ Below w.heap.size w w' := by
  by_cases hb : 500 < n ∧ n ≤ 65536
  · obtain ⟨x, c, rfl, _⟩ := h
    exact walk_big n hb.1 hb.2 x _ c a w
  · by_cases hn : n < 1 ∨ 65536 < n
    · obtain ⟨x, c, rfl, _⟩ := h
      exact walk_no n hn x _ c a w
    · obtain ⟨N, rfl⟩ : ∃ N : Nat, n = N := ⟨n.toNat, by omega⟩
      exact walk_in N (by omega) (by omega) lv L F a a0 a1 w h

set_option maxRecDepth 100000 in
theorem open_ops {H : Type} {enc : TypeId × Value → H} {w : World} {r : Reach} {b0 base : Nat} {v : Value} {d : DataW H} {ps : List MemPlace}
    (hval : Value.okWide Try.prog w r b0 64 v) (hd : DataW.Trod enc Try.prog w base (fun _ => true) true 64 v d ps) : ∃ L f, SO 2 w v L f :=
  open_so (t := 64) Try.underlying64 Try.underlying72 (by kernel_rfl) (by kernel_rfl) (fun j f hj => by
    rcases j with _ | _ | j
    · simp at hj; rw [← hj]
    · simp at hj; rw [← hj]
    · simp at hj) (by decide) hval hd

set_option maxRecDepth 100000 in
theorem lifted (os : Os) (started : os.Started) (H : Type) (enc : TypeId × Value → H) :
    ReturnsInHanded {} Try.checked os 8 .any (Rows.bitsLivesSpec.pre6 enc Try.prog Try.f8 Rows.bitsLivesRow.domain false) (Rows.bitsLivesSpec.post enc Try.prog Try.f8 false true false false) := by
  refine returnsInHanded_of_change (C := Try.checked) own started (by kernel_rfl) Try.func8
    (ChangeSpec.witness6 (enc := enc) (C := Try.checked) false ⟨#[], #[.int .i64 0, .slice none 0 0, .int .i64 0], []⟩ 8 (by kernel_rfl) (by kernel_rfl) (by kernel_rfl) (by kernel_rfl)) ?_
  intro W base args ds gs before hval0 hW hcnd _
  have hval : ∀ (j : Nat) t v, Try.f8.params[j]? = some t → args[j]? = some v → Value.okWide Try.prog W .any base t v := hval0
  have hW' := hW
  obtain ⟨p, q, hA0, hV, rfl, hfz, hnd⟩ := hW
  have hA : DataW.TrodAll enc Try.prog W 0 (fun _ => true) true Try.f8.params.toList args.toList ds p := hA0
  rw [Try.params8] at hA hval
  obtain ⟨v0, vs0, d0, ds0, p0, q0, hargs, rfl, rfl, h0, r0⟩ := trodAll_cons hA
  obtain ⟨v1, vs1, d1, ds1, p1, q1, rfl, rfl, rfl, h1, r1⟩ := trodAll_cons r0
  obtain ⟨v2, vs2, d2, ds2, p2, q2, rfl, rfl, rfl, h2, r2⟩ := trodAll_cons r1
  obtain ⟨rfl, rfl, rfl⟩ := trodAll_nil r2
  obtain rfl : args = #[v0, v1, v2] := by cases args; simp_all
  obtain ⟨rfl, rfl⟩ := trodVars_none hV
  obtain ⟨a0, rfl, rfl, rfl, w0⟩ := open_int Try.underlying3 (hval 0 3 v0 rfl rfl) h0
  have b0 := bounds_i64 w0
  obtain ⟨L1, f1, s1⟩ := open_ops (hval 1 64 v1 rfl rfl) h1
  obtain ⟨a2, rfl, rfl, rfl, w2⟩ := open_int Try.underlying3 (hval 2 3 v2 rfl rfl) h2
  have b2 := bounds_i64 w2
  refine (walk a0 v1 L1 f1 a2 b2.1 b2.2 W s1).mono fun e W' ⟨he, hb⟩ => ?_
  subst he
  exact ⟨_, rfl, law_post hW' rfl rfl rfl (by kernel_rfl) hb⟩

/-- The statement. -/
theorem proved : Rows.BitsLivesSaid :=
  OpenClaim.holds_of_wide 8 Try.f8 rfl rfl rfl rfl rfl rfl rfl ⟨rfl, rfl, rfl, rfl, rfl⟩ rfl rfl rfl rfl rfl (by kernel_rfl) Try.func8 (by kernel_rfl)
    (of_decide_eq_true (by kernel_rfl)) (by unfold Func.isWrapper; first | (rw [if_pos (by decide +kernel)]; kernel_rfl) | (rw [if_neg (by decide +kernel)]; exact ⟨rfl, rfl⟩))
    (fun os started H enc _ => lifted os started H enc)
#print axioms proved
end Go.Proofs.Ytklhnibmpdaioaa.bitsLives
