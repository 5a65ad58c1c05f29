/-
  One call on both disks answers alike (the rest). Condition: both lie in memory and are equal.
-/
import Derived.Test.YtklhnibmpdaioaaXK
namespace Go.Proofs.Ytklhnibmpdaioaa
open Go.ChangeShapes Go.WideShapes Go.ChangeAt Go.RowKit
section
variable {w0 w : World} {g N sb hb q j : Nat}
set_option maxRecDepth 100000
set_option maxHeartbeats 4000000
theorem one1 (h : OneS w0 g N sb hb q j w) (hj : j ≤ 1000) (s y : Nat) (n : Int) (x : Option Addr) (l c : Nat) (hs : s < 4294967296) :
    Calls Try.prog 17 #[.pointer (some ⟨g, 0, none⟩), .pointer (some ⟨q, 0, none⟩), .agg #[.int .i64 1, .int .u32 s, .int .u8 y, .int .i64 n, .slice x l c]] w fun e w' => e = .returned (.bool true) ∧ OneS w0 g N sb hb q (j + 1) w' := by
  have CE : Hid (Below w.heap.size w (w.alloc (.cells #[.int .i64 1, .int .u32 s, .int .u8 y, .int .i64 n, .slice x l c] 34))) := (Below.refl _ _).alloc (Nat.le_refl _) _
  have S1 := Lib.hid (h.below CE.out)
  have O1 : Hid (diskDown.Opc (w.alloc (.cells #[.int .i64 1, .int .u32 s, .int .u8 y, .int .i64 n, .slice x l c] 34)) w.heap.size 1 s y n x l c) := ⟨heap_alloc_new _ _⟩
  have HJ := Lib.hid hj
  clear CE h hj
  have SY : Hid (s < 4294967296) := hs
  clear hs
  go_enter Try.func17, Try.ntmps17
  go_wp2_with fail
  obtain ⟨bx, hbx⟩ : ∃ bx, bx = w.heap.size := ⟨_, rfl⟩
  obtain ⟨v0, hv0⟩ : ∃ v0, v0 = w.alloc (.cells #[.int .i64 1, .int .u32 s, .int .u8 y, .int .i64 n, .slice x l c] 34) := ⟨_, rfl⟩
  rw [← hv0, ← hbx] at O1
  rw [← hv0] at S1
  rw [← hv0, ← hbx]
  clear hv0 hbx
  obtain ⟨r, C⟩ := readPair S1.out HJ.out s SY.out
  refine C.mono ?_
  rintro e w2 ⟨x2, n2, k2, rfl, kp, nx⟩
  have NX := Lib.hid nx
  have P2 : Hid (diskDown.Opc w2 bx 1 s y n x l c) := diskDown.Opc.mk (kp _ _ O1.out.row)
  have g1 := P2.out.c1
  clear C kp nx
  go_wp2_with fail
  refine NX.out.mono ?_
  rintro e w4 ⟨x4, n4, k4, st, rfl, o4, s2, s4⟩
  have O4 := Lib.hid o4
  clear o4 g1
  go_wp2_with fail
  go_ret
  refine ⟨?_, O4.out.le⟩
  first | rfl | (simp; done)
theorem one2 (h : OneS w0 g N sb hb q j w) (hj : j ≤ 1000) (s y : Nat) (n : Int) (x : Option Addr) (l c : Nat) :
    Calls Try.prog 17 #[.pointer (some ⟨g, 0, none⟩), .pointer (some ⟨q, 0, none⟩), .agg #[.int .i64 2, .int .u32 s, .int .u8 y, .int .i64 n, .slice x l c]] w fun e w' => e = .returned (.bool true) ∧ OneS w0 g N sb hb q (j + 1) w' := by
  have CE : Hid (Below w.heap.size w (w.alloc (.cells #[.int .i64 2, .int .u32 s, .int .u8 y, .int .i64 n, .slice x l c] 34))) := (Below.refl _ _).alloc (Nat.le_refl _) _
  have S1 := Lib.hid (h.below CE.out)
  have O1 : Hid (diskDown.Opc (w.alloc (.cells #[.int .i64 2, .int .u32 s, .int .u8 y, .int .i64 n, .slice x l c] 34)) w.heap.size 2 s y n x l c) := ⟨heap_alloc_new _ _⟩
  have HJ := Lib.hid hj
  clear CE h hj
  go_enter Try.func17, Try.ntmps17
  go_wp2_with fail
  obtain ⟨bx, hbx⟩ : ∃ bx, bx = w.heap.size := ⟨_, rfl⟩
  obtain ⟨v0, hv0⟩ : ∃ v0, v0 = w.alloc (.cells #[.int .i64 2, .int .u32 s, .int .u8 y, .int .i64 n, .slice x l c] 34) := ⟨_, rfl⟩
  rw [← hv0, ← hbx] at O1
  rw [← hv0] at S1
  rw [← hv0, ← hbx]
  clear hv0 hbx
  obtain ⟨r, C⟩ := flushPair S1.out HJ.out
  refine C.mono ?_
  rintro e w2 ⟨rfl, nx⟩
  have NX := Lib.hid nx
  clear C nx
  go_wp2_with fail
  refine NX.out.mono ?_
  rintro e w4 ⟨rfl, o4⟩
  have O4 := Lib.hid o4
  clear o4
  go_wp2_with fail
  go_ret
  refine ⟨?_, O4.out⟩
  first | rfl | (simp; done)
theorem one4neg (h : OneS w0 g N sb hb q j w) (hj : j ≤ 1000) (s y : Nat) (n : Int) (x : Option Addr) (l c : Nat) (hn : n < 0) :
    Calls Try.prog 17 #[.pointer (some ⟨g, 0, none⟩), .pointer (some ⟨q, 0, none⟩), .agg #[.int .i64 4, .int .u32 s, .int .u8 y, .int .i64 n, .slice x l c]] w fun e w' => e = .returned (.bool true) ∧ OneS w0 g N sb hb q (j + 1) w' := by
  have CE : Hid (Below w.heap.size w (w.alloc (.cells #[.int .i64 4, .int .u32 s, .int .u8 y, .int .i64 n, .slice x l c] 34))) := (Below.refl _ _).alloc (Nat.le_refl _) _
  have S1 := Lib.hid (h.below CE.out)
  have O1 : Hid (diskDown.Opc (w.alloc (.cells #[.int .i64 4, .int .u32 s, .int .u8 y, .int .i64 n, .slice x l c] 34)) w.heap.size 4 s y n x l c) := ⟨heap_alloc_new _ _⟩
  have HJ := Lib.hid hj
  clear CE h hj
  go_enter Try.func17, Try.ntmps17
  go_wp2_with fail
  obtain ⟨bx, hbx⟩ : ∃ bx, bx = w.heap.size := ⟨_, rfl⟩
  obtain ⟨v0, hv0⟩ : ∃ v0, v0 = w.alloc (.cells #[.int .i64 4, .int .u32 s, .int .u8 y, .int .i64 n, .slice x l c] 34) := ⟨_, rfl⟩
  rw [← hv0, ← hbx] at O1
  rw [← hv0] at S1
  rw [← hv0, ← hbx]
  clear hv0 hbx
  have f3 := O1.out.c3
  have HN := Lib.hid hn
  go_wp2_with fail
  refine (failPair_no S1.out n HN.out).mono ?_
  rintro e w2 ⟨rfl, o2⟩
  have O2 := Lib.hid o2
  clear o2
  go_wp2_with fail
  go_ret
  refine ⟨?_, O2.out.le⟩
  first | rfl | (simp; done)
theorem one4 (h : OneS w0 g N sb hb q j w) (hj : j ≤ 1000) (s y n : Nat) (x : Option Addr) (l c : Nat) (hn : n ≤ 9223372036854775807) :
    Calls Try.prog 17 #[.pointer (some ⟨g, 0, none⟩), .pointer (some ⟨q, 0, none⟩), .agg #[.int .i64 4, .int .u32 s, .int .u8 y, .int .i64 (n : Int), .slice x l c]] w fun e w' => e = .returned (.bool true) ∧ OneS w0 g N sb hb q (j + 1) w' := by
  have CE : Hid (Below w.heap.size w (w.alloc (.cells #[.int .i64 4, .int .u32 s, .int .u8 y, .int .i64 (n : Int), .slice x l c] 34))) := (Below.refl _ _).alloc (Nat.le_refl _) _
  have S1 := Lib.hid (h.below CE.out)
  have O1 : Hid (diskDown.Opc (w.alloc (.cells #[.int .i64 4, .int .u32 s, .int .u8 y, .int .i64 (n : Int), .slice x l c] 34)) w.heap.size 4 s y (n : Int) x l c) := ⟨heap_alloc_new _ _⟩
  have HJ := Lib.hid hj
  clear CE hj
  have HN := Lib.hid hn
  obtain ⟨⟨vq, eq4⟩, fq4, C⟩ := failPair S1.out n HN.out
  have CC := Lib.hid C
  obtain ⟨⟨vq', eq4'⟩, fq4', _⟩ := failPair h n HN.out
  have hne : w.heap.size ≠ q := fun e => by
    obtain ⟨wv, su, ws, rg, c, p, d, K, lv, L, rb, h1, h2⟩ := h
    have := h1.xd.lt
    omega
  have P2 : Hid (diskDown.Opc ((w.alloc (.cells #[.int .i64 4, .int .u32 s, .int .u8 y, .int .i64 (n : Int), .slice x l c] 34)).setCell ⟨q, 4, none⟩ (.int .i64 (n : Int))) w.heap.size 4 s y (n : Int) x l c) := diskDown.Opc.mk (((Mods.set (S := fun k => k = q) (w.alloc (.cells #[.int .i64 4, .int .u32 s, .int .u8 y, .int .i64 (n : Int), .slice x l c] 34)) ⟨q, 4, none⟩ (.int .i64 (n : Int)) rfl).block w.heap.size (Array.getElem?_eq_some_iff.1 O1.out.row).1 hne).trans O1.out.row)
  have g3 := P2.out.c3
  clear C
  go_enter Try.func17, Try.ntmps17
  go_wp2_with fail
  refine CC.out.mono ?_
  rintro e w2 ⟨rfl, o2⟩
  have O2 := Lib.hid o2
  clear o2
  go_wp2_with fail
  go_ret
  refine ⟨?_, O2.out.le⟩
  first | rfl | (simp; done)
theorem one5 (h : OneS w0 g N sb hb q j w) (hj : j ≤ 1000) (s y : Nat) (n : Int) (x : Option Addr) (l c : Nat) (f : Nat → Int) (hl : l ≤ 9223372036854775807)
    (hx : ∀ j, j < l → 0 ≤ f j ∧ f j ≤ 255 ∧ ∃ b o, x = some ⟨b, o, none⟩ ∧ b < w0.heap.size ∧ w0.cell? ⟨b, o + j, none⟩ = some (.int .u8 (f j))) :
    Calls Try.prog 17 #[.pointer (some ⟨g, 0, none⟩), .pointer (some ⟨q, 0, none⟩), .agg #[.int .i64 5, .int .u32 s, .int .u8 y, .int .i64 n, .slice x l c]] w fun e w' => e = .returned (.bool true) ∧ OneS w0 g N sb hb q (j + 1) w' := by
  have CE : Hid (Below w.heap.size w (w.alloc (.cells #[.int .i64 5, .int .u32 s, .int .u8 y, .int .i64 n, .slice x l c] 34))) := (Below.refl _ _).alloc (Nat.le_refl _) _
  have S1 := Lib.hid (h.below CE.out)
  have O1 : Hid (diskDown.Opc (w.alloc (.cells #[.int .i64 5, .int .u32 s, .int .u8 y, .int .i64 n, .slice x l c] 34)) w.heap.size 5 s y n x l c) := ⟨heap_alloc_new _ _⟩
  have HJ := Lib.hid hj
  clear CE h hj
  have HX := Lib.hid hx
  have HL := Lib.hid hl
  clear hx hl
  go_enter Try.func17, Try.ntmps17
  go_wp2_with fail
  obtain ⟨bx, hbx⟩ : ∃ bx, bx = w.heap.size := ⟨_, rfl⟩
  obtain ⟨v0, hv0⟩ : ∃ v0, v0 = w.alloc (.cells #[.int .i64 5, .int .u32 s, .int .u8 y, .int .i64 n, .slice x l c] 34) := ⟨_, rfl⟩
  rw [← hv0, ← hbx] at O1
  rw [← hv0] at S1
  rw [← hv0, ← hbx]
  clear hv0 hbx
  have f4 := O1.out.c4
  go_wp2_with fail
  refine (crashPair S1.out HJ.out x l c f HL.out HX.out).mono ?_
  rintro e w2 ⟨rfl, _, kp, nx⟩
  have NX := Lib.hid nx
  have P2 : Hid (diskDown.Opc w2 bx 5 s y n x l c) := diskDown.Opc.mk (kp _ _ O1.out.row)
  have g4 := P2.out.c4
  clear kp nx
  go_wp2_with fail
  refine NX.out.mono ?_
  rintro e w4 ⟨rfl, o4⟩
  have O4 := Lib.hid o4
  clear o4
  go_wp2_with fail
  go_ret
  refine ⟨?_, O4.out.le⟩
  first | rfl | (simp; done)
theorem onez (h : OneS w0 g N sb hb q j w) (hj : j ≤ 1000) (kd : Int) (s y : Nat) (n : Int) (x : Option Addr) (l c : Nat) (hk : kd ≠ 0 ∧ kd ≠ 1 ∧ kd ≠ 2 ∧ kd ≠ 3 ∧ kd ≠ 4 ∧ kd ≠ 5 ∧ kd ≠ 6) :
    Calls Try.prog 17 #[.pointer (some ⟨g, 0, none⟩), .pointer (some ⟨q, 0, none⟩), .agg #[.int .i64 kd, .int .u32 s, .int .u8 y, .int .i64 n, .slice x l c]] w fun e w' => e = .returned (.bool true) ∧ OneS w0 g N sb hb q (j + 1) w' := by
  have CE : Hid (Below w.heap.size w (w.alloc (.cells #[.int .i64 kd, .int .u32 s, .int .u8 y, .int .i64 n, .slice x l c] 34))) := (Below.refl _ _).alloc (Nat.le_refl _) _
  have S1 := Lib.hid (h.below CE.out)
  have O1 : Hid (diskDown.Opc (w.alloc (.cells #[.int .i64 kd, .int .u32 s, .int .u8 y, .int .i64 n, .slice x l c] 34)) w.heap.size kd s y n x l c) := ⟨heap_alloc_new _ _⟩
  have HJ := Lib.hid hj
  clear CE h hj
  have q0 : (kd == 0) = false := by simp [hk.1]
  have q1 : (kd == 1) = false := by simp [hk.2.1]
  have q2 : (kd == 2) = false := by simp [hk.2.2.1]
  have q3 : (kd == 3) = false := by simp [hk.2.2.2.1]
  have q4 : (kd == 4) = false := by simp [hk.2.2.2.2.1]
  have q5 : (kd == 5) = false := by simp [hk.2.2.2.2.2.1]
  have q6 : (kd == 6) = false := by simp [hk.2.2.2.2.2.2]
  clear hk
  go_enter Try.func17, Try.ntmps17
  go_wp2_with fail
  go_ret
  refine ⟨?_, S1.out.le⟩
  first | rfl | (simp; done)
end
end Go.Proofs.Ytklhnibmpdaioaa
