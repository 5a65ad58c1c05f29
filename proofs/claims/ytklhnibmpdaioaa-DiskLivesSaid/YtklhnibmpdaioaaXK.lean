/-
  One call on both disks answers alike. Condition: both lie in memory and are equal.
-/
import Derived.Test.YtklhnibmpdaioaaXJ
import Derived.Deep.RegionHeld3
namespace Go.Proofs.Ytklhnibmpdaioaa
open Go.ChangeShapes Go.WideShapes Go.ChangeAt Go.RowKit
theorem diskDown.Opc.c3 {w : World} {q : Nat} {k : Int} {s y : Nat} {n : Int} {x : Option Addr} {l c : Nat} (h : diskDown.Opc w q k s y n x l c) : w.cell? ⟨q, 3, none⟩ = some (.int .i64 n) := by rw [cell_of_row _ _ _ _ _ _ h.row]; rfl
theorem diskDown.Opc.c4 {w : World} {q : Nat} {k : Int} {s y : Nat} {n : Int} {x : Option Addr} {l c : Nat} (h : diskDown.Opc w q k s y n x l c) : w.cell? ⟨q, 4, none⟩ = some (.slice x l c) := by rw [cell_of_row _ _ _ _ _ _ h.row]; rfl
section
variable {w0 w : World} {g N sb hb q j : Nat}
set_option maxRecDepth 100000
set_option maxHeartbeats 4000000
theorem one0 (h : OneS w0 g N sb hb q j w) (hj : j ≤ 1000) (s y : Nat) (n : Int) (x : Option Addr) (l c : Nat) (hs : s < 4294967296) (hy : y < 256) :
    Calls Try.prog 17 #[.pointer (some ⟨g, 0, none⟩), .pointer (some ⟨q, 0, none⟩), .agg #[.int .i64 0, .int .u32 s, .int .u8 y, .int .i64 n, .slice x l c]] w fun e w' => e = .returned (.bool true) ∧ OneS w0 g N sb hb q (j + 1) w' := by
  have CE : Hid (Below w.heap.size w (w.alloc (.cells #[.int .i64 0, .int .u32 s, .int .u8 y, .int .i64 n, .slice x l c] 34))) := (Below.refl _ _).alloc (Nat.le_refl _) _
  have S1 := Lib.hid (h.below CE.out)
  have O1 : Hid (diskDown.Opc (w.alloc (.cells #[.int .i64 0, .int .u32 s, .int .u8 y, .int .i64 n, .slice x l c] 34)) w.heap.size 0 s y n x l c) := ⟨heap_alloc_new _ _⟩
  have HJ := Lib.hid hj
  clear CE h hj
  have SY : Hid (s < 4294967296 ∧ y < 256) := ⟨hs, hy⟩
  obtain ⟨kk, hkk, hk6⟩ : ∃ kk : Nat, ((0 < n ∧ n < 600 ∧ n = kk) ∨ (¬ (0 < n ∧ n < 600) ∧ kk = 512)) ∧ kk ≤ 600 := by
    by_cases hn : 0 < n ∧ n < 600
    · exact ⟨n.toNat, .inl ⟨hn.1, hn.2, by omega⟩, by omega⟩
    · exact ⟨512, .inr ⟨hn, rfl⟩, by omega⟩
  have KK : Hid (((0 < n ∧ n < 600 ∧ n = kk) ∨ (¬ (0 < n ∧ n < 600) ∧ kk = 512)) ∧ kk ≤ 600) := ⟨hkk, hk6⟩
  clear hkk hk6 hs hy
  go_enter Try.func17, Try.ntmps17
  go_wp2_with fail
  obtain ⟨bx, hbx⟩ : ∃ bx, bx = w.heap.size := ⟨_, rfl⟩
  obtain ⟨v0, hv0⟩ : ∃ v0, v0 = w.alloc (.cells #[.int .i64 0, .int .u32 s, .int .u8 y, .int .i64 n, .slice x l c] 34) := ⟨_, rfl⟩
  rw [← hv0, ← hbx] at O1
  rw [← hv0] at S1
  rw [← hv0, ← hbx]
  clear hv0 hbx
  have f1 := O1.out.c1
  have f2 := O1.out.c2
  have f3 := O1.out.c3
  have D1 : Hid (OneS w0 g N sb hb q j v0.drew) := S1.out.below ((Below.refl _ _).drew)
  have P1 : Hid (diskDown.Opc v0.drew bx 0 s y n x l c) := ⟨O1.out.row⟩
  go_region_held3 (fun W => W.cell? ⟨bx, 1, none⟩ = some (.int .u32 s) ∧ W.cell? ⟨bx, 2, none⟩ = some (.int .u8 y) ∧ W.cell? ⟨bx, 3, none⟩ = some (.int .i64 n)) (go_keep)
    (first
      | (go_at_call 33; refine (fullAny y n kk KK.out.1 _).mono ?_; rintro e w3 ⟨b3, rfl, kb3, _, k3⟩; have S3 := Lib.hid (D1.out.below k3); have P3 := Lib.hid (P1.out.below k3); have KB3 := Lib.hid kb3; clear k3 kb3; have g1 := P3.out.c1; have g2 := P3.out.c2; have g3 := P3.out.c3)
      | (go_at_call 27; obtain ⟨r, C27⟩ := writePair S3.out HJ.out s y kk SY.out.1 SY.out.2 KK.out.2 b3 KB3.out; refine C27.mono ?_; rintro e w4 ⟨rfl, hb4, hk4, nx4⟩; have NX := Lib.hid nx4; have P4 : Hid (diskDown.Opc w4 bx 0 s y n x l c) := (diskDown.Opc.mk (hk4 _ _ P3.out.row)); clear C27 hb4 hk4 nx4; have g4 := P4.out.c1; have g5 := P4.out.c2; have g6 := P4.out.c3)
      | (go_at_call 33; refine (fullAny y n kk KK.out.1 _).mono ?_; rintro e w5 ⟨b5, rfl, kb5, _, k5⟩; have P5 := Lib.hid (P4.out.below k5); have N5 := Lib.hid (NX.out _ _ k5 kb5); clear k5 kb5; have g7 := P5.out.c1; have g8 := P5.out.c2; have g9 := P5.out.c3)
      | (go_at_call 51; refine N5.out.mono ?_; rintro e w6 ⟨rfl, hk6, o6⟩; have O6 := Lib.hid o6; have P6 : Hid (diskDown.Opc w6 bx 0 s y n x l c) := (diskDown.Opc.mk (hk6 _ _ P5.out.row)); clear hk6 o6; have g10 := P6.out.c1; have g11 := P6.out.c2; have g12 := P6.out.c3))
  go_wp2_with fail
  go_ret
  refine ⟨?_, O6.out⟩
  first | rfl | (simp; done)
theorem one6 (h : OneS w0 g N sb hb q j w) (hj : j ≤ 1000) (s y : Nat) (n : Int) (x : Option Addr) (l c : Nat) (hs : s < 4294967296) (hy : y < 256) :
    Calls Try.prog 17 #[.pointer (some ⟨g, 0, none⟩), .pointer (some ⟨q, 0, none⟩), .agg #[.int .i64 6, .int .u32 s, .int .u8 y, .int .i64 n, .slice x l c]] w fun e w' => e = .returned (.bool true) ∧ OneS w0 g N sb hb q (j + 1) w' := by
  have CE : Hid (Below w.heap.size w (w.alloc (.cells #[.int .i64 6, .int .u32 s, .int .u8 y, .int .i64 n, .slice x l c] 34))) := (Below.refl _ _).alloc (Nat.le_refl _) _
  have S1 := Lib.hid (h.below CE.out)
  have O1 : Hid (diskDown.Opc (w.alloc (.cells #[.int .i64 6, .int .u32 s, .int .u8 y, .int .i64 n, .slice x l c] 34)) w.heap.size 6 s y n x l c) := ⟨heap_alloc_new _ _⟩
  have HJ := Lib.hid hj
  clear CE h hj
  have SY : Hid (s < 4294967296 ∧ y < 256) := ⟨hs, hy⟩
  obtain ⟨kk, hkk, hk6⟩ : ∃ kk : Nat, ((0 < n ∧ n < 600 ∧ n = kk) ∨ (¬ (0 < n ∧ n < 600) ∧ kk = 512)) ∧ kk ≤ 600 := by
    by_cases hn : 0 < n ∧ n < 600
    · exact ⟨n.toNat, .inl ⟨hn.1, hn.2, by omega⟩, by omega⟩
    · exact ⟨512, .inr ⟨hn, rfl⟩, by omega⟩
  have KK : Hid (((0 < n ∧ n < 600 ∧ n = kk) ∨ (¬ (0 < n ∧ n < 600) ∧ kk = 512)) ∧ kk ≤ 600) := ⟨hkk, hk6⟩
  clear hkk hk6 hs hy
  go_enter Try.func17, Try.ntmps17
  go_wp2_with fail
  obtain ⟨bx, hbx⟩ : ∃ bx, bx = w.heap.size := ⟨_, rfl⟩
  obtain ⟨v0, hv0⟩ : ∃ v0, v0 = w.alloc (.cells #[.int .i64 6, .int .u32 s, .int .u8 y, .int .i64 n, .slice x l c] 34) := ⟨_, rfl⟩
  rw [← hv0, ← hbx] at O1
  rw [← hv0] at S1
  rw [← hv0, ← hbx]
  clear hv0 hbx
  have f1 := O1.out.c1
  have f2 := O1.out.c2
  have f3 := O1.out.c3
  have D1 : Hid (OneS w0 g N sb hb q j v0.drew) := S1.out.below ((Below.refl _ _).drew)
  have P1 : Hid (diskDown.Opc v0.drew bx 6 s y n x l c) := ⟨O1.out.row⟩
  go_region_held3 (fun W => W.cell? ⟨bx, 1, none⟩ = some (.int .u32 s) ∧ W.cell? ⟨bx, 2, none⟩ = some (.int .u8 y) ∧ W.cell? ⟨bx, 3, none⟩ = some (.int .i64 n)) (go_keep)
    (first
      | (go_at_call 33; refine (fullAny y n kk KK.out.1 _).mono ?_; rintro e w3 ⟨b3, rfl, kb3, _, k3⟩; have S3 := Lib.hid (D1.out.below k3); have P3 := Lib.hid (P1.out.below k3); have KB3 := Lib.hid kb3; clear k3 kb3; have g1 := P3.out.c1; have g2 := P3.out.c2; have g3 := P3.out.c3)
      | (go_at_call 32; obtain ⟨r, C27⟩ := tamperPair S3.out HJ.out s y kk SY.out.1 SY.out.2 KK.out.2 b3 KB3.out; refine C27.mono ?_; rintro e w4 ⟨rfl, hb4, hk4, nx4⟩; have NX := Lib.hid nx4; have P4 : Hid (diskDown.Opc w4 bx 6 s y n x l c) := (diskDown.Opc.mk (hk4 _ _ P3.out.row)); clear C27 hb4 hk4 nx4; have g4 := P4.out.c1; have g5 := P4.out.c2; have g6 := P4.out.c3)
      | (go_at_call 33; refine (fullAny y n kk KK.out.1 _).mono ?_; rintro e w5 ⟨b5, rfl, kb5, _, k5⟩; have P5 := Lib.hid (P4.out.below k5); have N5 := Lib.hid (NX.out _ _ k5 kb5); clear k5 kb5; have g7 := P5.out.c1; have g8 := P5.out.c2; have g9 := P5.out.c3)
      | (go_at_call 56; refine N5.out.mono ?_; rintro e w6 ⟨rfl, hk6, o6⟩; have O6 := Lib.hid o6; have P6 : Hid (diskDown.Opc w6 bx 6 s y n x l c) := (diskDown.Opc.mk (hk6 _ _ P5.out.row)); clear hk6 o6; have g10 := P6.out.c1; have g11 := P6.out.c2; have g12 := P6.out.c3))
  go_wp2_with fail
  go_ret
  refine ⟨?_, O6.out⟩
  first | rfl | (simp; done)
end
end Go.Proofs.Ytklhnibmpdaioaa
