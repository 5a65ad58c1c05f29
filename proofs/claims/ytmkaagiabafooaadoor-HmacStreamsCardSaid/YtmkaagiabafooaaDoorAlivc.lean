/-
  Contracts of the functions that the statements of package hmac go through: what must come of fixed calls. Condition: the two tables are as laid.
-/
import Derived.Test.YtmkaagiabafooaaDoorExp
namespace Go.Proofs.YtmkaagiabafooaaDoor
open Go.RowKit
theorem conv22s (w : World) (o : Obj) (C : Array Value) (n c : Nat) : (convert 22 22 (.slice (some ⟨w.heap.size + 1, 0, none⟩) n c)).run Tryd.prog ((w.alloc o).alloc (.cells C 5)) = .ok (.slice (some ⟨w.heap.size + 1, 0, none⟩) n c) ((w.alloc o).alloc (.cells C 5 (C.size, C.size + 1))) := by
  have h := conv22 (w.alloc o) C n c
  simpa using h
theorem mac_kt : mac [107] [116] = [231, 252, 188, 22, 248, 38, 173, 150, 72, 94, 172, 238, 254, 3, 160, 217, 84, 97, 109, 250, 190, 31, 82, 59, 214, 59, 183, 98, 27, 94, 11, 213] := by decide +kernel
theorem mac_k0t : mac [107, 0] [116] = mac [107] [116] := by decide +kernel
theorem byk : Byt [107] := byt_of _ (by decide)
theorem byk0 : Byt [107, 0] := byt_of _ (by decide)
theorem byt_t : Byt [116] := byt_of _ (by decide)
theorem byn : Byt [110] := byt_of _ (by decide)
def key1 : List Int := [1, 0, 0, 0, 0, 0, 0, 0, 0, 0, 0, 0, 0, 0, 0, 0, 0, 0, 0, 0, 0, 0, 0, 0, 0, 0, 0, 0, 0, 0, 0, 0]
theorem byk1 : Byt key1 := byt_of _ (by decide)
set_option maxRecDepth 100000 in
set_option maxHeartbeats 4000000 in
theorem alivc (w : World) (hG : Glob w) : Calls Tryd.prog 21 #[] w fun e w' => e = .returned (.bool true) ∧ Below w.heap.size w w' := by
  have z27 := zv27
  obtain ⟨Z27, hZ27⟩ : ∃ Z, Z = bcells (List.replicate 32 0) := ⟨_, rfl⟩
  rw [← hZ27] at z27
  have h2 : 2 ≤ w.heap.size := by have := hG.lt; omega
  obtain ⟨A, hA⟩ : ∃ A, A = mac [107] [116] := ⟨_, rfl⟩
  have lA : A.length = 32 := by rw [hA]; exact mac_len _ _ byk
  have bA : Byt A := by rw [hA]; exact mac_byt _ _
  have M1 : Hid (∀ W vk vb, Glob W → Sees W vk [107] → Sees W vb [116] → Calls Tryd.prog 22 #[vk, vb] W fun e w' => e = .returned (.agg (bcells A)) ∧ Below W.heap.size W w') := fun W vk vb hg h1 h2 => by
    have h := macc vk vb _ _ W h1 h2 (by simp) (by simp) hg; rw [← hA] at h; exact h
  have M2 : Hid (∀ W vk vb, Glob W → Sees W vk [107, 0] → Sees W vb [116] → Calls Tryd.prog 22 #[vk, vb] W fun e w' => e = .returned (.agg (bcells A)) ∧ Below W.heap.size W w') := fun W vk vb hg h1 h2 => by
    have h := macc vk vb _ _ W h1 h2 (by simp) (by simp) hg; rw [mac_k0t, ← hA] at h; exact h
  have RT : Hid (∀ W vk vb vm, Glob W → Sees W vk [107] → Sees W vb [116] → Sees W vm A → Calls Tryd.prog 25 #[vk, vb, vm] W fun e w' => e = .returned (.bool true) ∧ Below W.heap.size W w') := fun W vk vb vm hg h1 h2 h3 => by
    have h := right vk vb vm _ _ _ W h1 h2 h3 (by simp) (by simp) hg
    rw [show decide (mac [107] [116] = A) = true from decide_eq_true hA.symm] at h; exact h
  have X4 : Hid (∀ W vn, Glob W → Sees W vn [110] → Calls Tryd.prog 26 #[.agg (bcells key1), vn, .int .i64 40] W fun e w' => ∃ q cap, e = .returned (.tuple #[.slice q 40 cap, .int .i64 0]) ∧ Below W.heap.size W w') := fun W vn hg h1 =>
    (expand_ok key1 [110] vn 40 (by omega) W byk1 rfl h1 (by simp) hg).mono fun e w' ⟨q, cap, he, _, hb⟩ => ⟨q, cap, he, hb⟩
  have EQ := Lib.hid (eq27_same A bA lA)
  have EZ : Hid (∀ W : World, (Op.equalIn 10000 27 (.agg (bcells A)) (.agg Z27)).run Tryd.prog W = .ok false W) := fun W => by
    rw [hZ27, eq27 A (List.replicate 32 0) bA (byt_zero _) lA (by simp) W, hA, mac_kt]; rfl
  have IA := Lib.hid (show (Tryd.prog.info? 27).map (·.size) = some (bcells A).size by rw [i27, bsize, lA])
  have ZA := Lib.hid (show Z27.size = (bcells A).size by rw [hZ27, bsize, bsize, lA, List.length_replicate])
  have OA := Lib.hid (bone A)
  have LA := Lib.hid lA
  have BA := Lib.hid bA
  have HGL := Lib.hid hG
  have H2 := Lib.hid h2
  clear hZ27 hA lA bA hG h2
  have cv := conv22
  have cvs := conv22s
  go_enter Tryd.func21, Tryd.ntmps21
  go_wp2_with fail
  have s0 : Sees ((w.alloc (.cells #[.int .u8 107] 5 (1, 2))).alloc (.cells #[.int .u8 116] 5 (1, 2))) (.slice (some ⟨w.heap.size, 0, none⟩) 1 1) [107] :=
    (sees_mark (w := w) #[.int .u8 107] [107] rfl byk 1 rfl (by decide) (1, 2)).below ((Below.refl _ _).alloc (Nat.le_refl _) _)
  have s1 : Sees ((w.alloc (.cells #[.int .u8 107] 5 (1, 2))).alloc (.cells #[.int .u8 116] 5 (1, 2))) (.slice (some ⟨w.heap.size + 1, 0, none⟩) 1 1) [116] := by
    have h := sees_mark (w := w.alloc (.cells #[.int .u8 107] 5 (1, 2))) #[.int .u8 116] [116] rfl byt_t 1 rfl (by decide) (1, 2)
    simpa using h
  have b0 : Below w.heap.size w ((w.alloc (.cells #[.int .u8 107] 5 (1, 2))).alloc (.cells #[.int .u8 116] 5 (1, 2))) := ((Below.refl _ _).alloc (Nat.le_refl _) _).alloc (by simp) _
  refine (M1.out _ _ _ (HGL.out.below b0 H2.out) s0 s1).mono ?_
  rintro e w1 ⟨rfl, hb⟩
  have B1 : Hid (Below w.heap.size w w1) := b0.trans (hb.mono b0.size)
  clear hb s0 s1 b0
  have rA : Row27 ((w1.alloc (.cells Z27 27)).setRow w1.heap.size (bcells A)) w1.heap.size A := setRow_heap _ _ _ _ _ _ (heap_alloc_new w1 _)
  have b3 : Below w.heap.size w ((w1.alloc (.cells Z27 27)).setRow w1.heap.size (bcells A)) := (B1.out.alloc B1.out.size _).trans (below_row _ _ B1.out.size)
  clear B1
  go_wp2_with (refine wpList_store_row rfl 27 (.tmp 1) (.tmp 11) rfl w1.heap.size (bcells A) rfl rfl 27 Z27 (heap_alloc_new w1 _) IA.out ZA.out OA.out ?_; generalize ((w1.alloc (.cells Z27 27)).setRow w1.heap.size (bcells A)) = w3 at rA b3 ⊢)
  have RA := Lib.hid rA
  have B3 := Lib.hid b3
  clear rA b3
  have s0 : Sees ((w3.alloc (.cells #[.int .u8 107, .int .u8 0] 5)).alloc (.cells #[.int .u8 116] 5 (1, 2))) (.slice (some ⟨w3.heap.size, 0, none⟩) 2 2) [107, 0] :=
    (sees_lit (w := w3) #[.int .u8 107, .int .u8 0] [107, 0] rfl byk0 2 rfl (by decide)).below ((Below.refl _ _).alloc (Nat.le_refl _) _)
  have s1 : Sees ((w3.alloc (.cells #[.int .u8 107, .int .u8 0] 5)).alloc (.cells #[.int .u8 116] 5 (1, 2))) (.slice (some ⟨w3.heap.size + 1, 0, none⟩) 1 1) [116] := by
    have h := sees_mark (w := w3.alloc (.cells #[.int .u8 107, .int .u8 0] 5)) #[.int .u8 116] [116] rfl byt_t 1 rfl (by decide) (1, 2)
    simpa using h
  have b0 : Below w3.heap.size w3 ((w3.alloc (.cells #[.int .u8 107, .int .u8 0] 5)).alloc (.cells #[.int .u8 116] 5 (1, 2))) := ((Below.refl _ _).alloc (Nat.le_refl _) _).alloc (by simp) _
  refine (M2.out _ _ _ (HGL.out.below (B3.out.trans (b0.mono B3.out.size)) H2.out) s0 s1).mono ?_
  rintro e w4 ⟨rfl, hb⟩
  have B4 : Hid (Below w3.heap.size w3 w4) := b0.trans (hb.mono b0.size)
  clear hb s0 s1 b0
  have rB : Row27 ((w4.alloc (.cells Z27 27)).setRow w4.heap.size (bcells A)) w4.heap.size A := setRow_heap _ _ _ _ _ _ (heap_alloc_new w4 _)
  have b5 : Below w3.heap.size w3 ((w4.alloc (.cells Z27 27)).setRow w4.heap.size (bcells A)) := (B4.out.alloc B4.out.size _).trans (below_row _ _ B4.out.size)
  clear B4
  go_wp2_with (refine wpList_store_row rfl 27 (.tmp 2) (.tmp 15) rfl w4.heap.size (bcells A) rfl rfl 27 Z27 (heap_alloc_new w4 _) IA.out ZA.out OA.out ?_; generalize ((w4.alloc (.cells Z27 27)).setRow w4.heap.size (bcells A)) = w5 at rB b5 ⊢)
  have RB := Lib.hid rB
  have RA5 := Lib.hid (RA.out.below b5)
  have B5 : Hid (Below w.heap.size w w5) := B3.out.trans (b5.mono B3.out.size)
  clear rB b5 RA B3
  refine (expand_arg _ none 0 0 (-1) (by omega) w5).mono ?_
  rintro e w6 ⟨rfl, hb⟩
  have B6 : Hid (Below w.heap.size w w6) := B5.out.trans (hb.mono B5.out.size)
  have RA6 := Lib.hid (RA5.out.below hb)
  have RB6 := Lib.hid (RB.out.below hb)
  clear hb RA5 RB B5
  go_wp2_with fail
  have q7 : Below w6.heap.size w6 (w6.alloc (.cells #[.int .u8 110] 5 (1, 2))) := (Below.refl _ _).alloc (Nat.le_refl _) _
  have s7 : Sees (w6.alloc (.cells #[.int .u8 110] 5 (1, 2))) (.slice (some ⟨w6.heap.size, 0, none⟩) 1 1) [110] := sees_mark _ _ rfl byn 1 rfl (by decide) _
  have b7 := B6.out.trans (q7.mono B6.out.size)
  refine (X4.out _ _ (HGL.out.below b7 H2.out) s7).mono ?_
  rintro e w8 ⟨q, cap, rfl, hb⟩
  have B8 : Hid (Below w.heap.size w w8) := b7.trans (hb.mono b7.size)
  have RA8 := Lib.hid ((RA6.out.below q7).below hb)
  have RB8 := Lib.hid ((RB6.out.below q7).below hb)
  clear hb q7 s7 b7 RA6 RB6 B6
  have LL := Lib.hid (len27' A LA.out)
  have R1 := Lib.hid RA8.out.range
  have R2 := Lib.hid RB8.out.range
  have eq := EQ.out
  have ez := EZ.out
  have aa := arr32_all
  go_wp2_with (first
    | (refine wpList_load_want (by rfl) 27 (.tmp 1) rfl w1.heap.size 0 rfl (bcells A).toList _ R1.out Tryd.underlying27 rfl LL.out ?_)
    | (refine wpList_load_want (by rfl) 27 (.tmp 2) rfl w4.heap.size 0 rfl (bcells A).toList _ R2.out Tryd.underlying27 rfl LL.out ?_))
  have q9 : Below w8.heap.size w8 ((w8.alloc (.cells #[.int .u8 107] 5 (1, 2))).alloc (.cells #[.int .u8 116] 5 (1, 2))) := ((Below.refl _ _).alloc (Nat.le_refl _) _).alloc (by simp) _
  have s0 : Sees ((w8.alloc (.cells #[.int .u8 107] 5 (1, 2))).alloc (.cells #[.int .u8 116] 5 (1, 2))) (.slice (some ⟨w8.heap.size, 0, none⟩) 1 1) [107] :=
    (sees_mark (w := w8) #[.int .u8 107] [107] rfl byk 1 rfl (by decide) (1, 2)).below ((Below.refl _ _).alloc (Nat.le_refl _) _)
  have s1 : Sees ((w8.alloc (.cells #[.int .u8 107] 5 (1, 2))).alloc (.cells #[.int .u8 116] 5 (1, 2))) (.slice (some ⟨w8.heap.size + 1, 0, none⟩) 1 1) [116] := by
    have h := sees_mark (w := w8.alloc (.cells #[.int .u8 107] 5 (1, 2))) #[.int .u8 116] [116] rfl byt_t 1 rfl (by decide) (1, 2)
    simpa using h
  have b9 := B8.out.trans (q9.mono B8.out.size)
  refine (RT.out _ _ _ _ (HGL.out.below b9 H2.out) s0 s1 ((RA8.out.below q9).sees LA.out BA.out)).mono ?_
  rintro e w10 ⟨rfl, hb⟩
  have B10 : Hid (Below w.heap.size w w10) := b9.trans (hb.mono b9.size)
  clear hb q9 s0 s1 b9
  go_wp2_with fail
  go_ret
  exact ⟨rfl, B10.out⟩
end Go.Proofs.YtmkaagiabafooaaDoor
