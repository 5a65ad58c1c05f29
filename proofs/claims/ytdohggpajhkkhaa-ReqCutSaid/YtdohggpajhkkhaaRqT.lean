/-
  The walk of ReqCut. Condition: the argument reads as a request.
-/
import Derived.Test.YtdohggpajhkkhaaRqS
namespace Go.Proofs.Ytdohggpajhkkhaa
open Go.RowKit
/-- Behind one more byte. -/
theorem app_more {w : World} {v : Value} {xs : List Int} (hs : Sees w v xs) (hn : xs.length ≤ 100000) (m : Int) (hm : 0 ≤ m ∧ m ≤ 255) :
    ∃ x1 c1 w1 x2 n2 c2 w2, (Builtin.append_ #[24, 24] 24 #[.slice (some ⟨w.heap.size, 0, none⟩) 0 0, v]).run Try.prog (w.alloc (.cells #[] 5)) = .ok (.slice x1 xs.length c1) w1 ∧
      (Builtin.append_ #[24, 24] 24 #[.slice x1 xs.length c1, .slice (some ⟨w1.heap.size, 0, none⟩) 1 1]).run Try.prog (w1.alloc (.cells #[.int .u8 m] 5)) = .ok (.slice x2 n2 c2) w2 ∧ Sees w2 (.slice x2 n2 c2) (xs ++ [m]) ∧ Below w.heap.size w w2 := by
  have b0 : Below w.heap.size w (w.alloc (.cells #[] 5)) := (Below.refl _ _).alloc (Nat.le_refl _) _
  have o0 : Own (w.alloc (.cells #[] 5)) w.heap.size (.slice (some ⟨w.heap.size, 0, none⟩) 0 0) [] := own_of (xs := []) (fun _ h => by simp at h) (Nat.zero_le _) (heap_alloc_new w _) (Nat.le_refl _) rfl
  obtain ⟨x1, c1, w1, r1, o1, _, b1⟩ := app o0 (hs.below b0) (by simp; omega) (by simp)
  have e0 : ([] : List Int).length + xs.length = xs.length := by simp
  rw [e0] at r1 o1
  have b2 : Below w1.heap.size w1 (w1.alloc (.cells #[.int .u8 m] 5)) := (Below.refl _ _).alloc (Nat.le_refl _) _
  have s2 : Sees (w1.alloc (.cells #[.int .u8 m] 5)) (.slice (some ⟨w1.heap.size, 0, none⟩) 1 1) [m] := new_sees w1 [m] 1 rfl (fun x h => by simp at h; omega) (by show 1 ≤ maxLen; decide)
  have z1 : w.heap.size ≤ w1.heap.size := Nat.le_trans (by simp) b1.size
  obtain ⟨x2, c2, w2, r2, o2, _, b3⟩ := app (o1.below b2) s2 (by simp; omega) (by simp; omega)
  exact ⟨x1, c1, w1, x2, _, c2, w2, r1, r2, by have := o2.sees; simpa using this, (b0.trans b1).trans ((b2.mono z1).trans b3)⟩

set_option maxRecDepth 100000 in
set_option maxHeartbeats 2000000 in
theorem cut_no {p : Rq} (hp : RQ p) (h5 : p.d.length ≤ 5000) (dv : Value) (at_ : Int) (m : Int) (w : World) (hd : Sees w dv p.d) (hr : rightQ p = false) :
    Calls Try.prog 6 #[.agg (rc p dv).toArray, .int .i64 at_, .int .u8 m] w (AliveP w) := by
  have ia := Lib.hid (i26 hp dv)
  obtain ⟨A, hA⟩ : ∃ A, A = (rc p dv).toArray := ⟨_, rfl⟩
  rw [← hA] at ia ⊢
  obtain ⟨xa, ca, ea, xa63⟩ := hd.form
  obtain ⟨w1, hw1⟩ : ∃ w1, w1 = w.alloc (.cells A 26) := ⟨_, rfl⟩
  have b1 : Below w.heap.size w w1 := by rw [hw1]; exact (Below.refl _ _).alloc (Nat.le_refl _) _
  have g1 : w1.heap[w.heap.size]? = some (.cells A 26 (0, 0)) := by rw [hw1]; exact heap_alloc_new w _
  have CD : Hid (∀ W : World, W.heap[w.heap.size]? = some (.cells A 26 (0, 0)) → W.cell? ⟨w.heap.size, 137, none⟩ = some (.slice xa p.d.length ca) ∧ W.cell? ⟨w.heap.size, 0, none⟩ = some (.int .i64 p.k)) := fun W h => by
    rw [hA] at h
    exact ⟨by rw [← ea]; exact row_dat hp h, by rw [cell_of_row W _ _ _ _ _ h]; rfl⟩
  have ca0 := (CD.out w1 g1).1
  have BE := Lib.hid b1
  have G1 := Lib.hid g1
  have HW1 := Lib.hid hw1
  have hbd := hd.1
  have EA : Hid (∀ W, Below w.heap.size w W → Calls Try.prog 8 #[.agg A] W (EncP W p)) := fun W h => by rw [hA]; exact encodeC hp h5 dv W (hd.below h)
  have AL : Hid (∀ W : World, Calls Try.prog 7 #[] W (AliveP W)) := alive
  have n5 : decide (5000 < p.d.length) = false := decide_eq_false (by omega)
  have k5 : ((p.d.length : Nat) : Int) ≤ 5000 := by omega
  have E0 := Lib.hid (encE_no hr)
  clear hw1 b1 g1 hd hA ea h5 hr hp xa63 hbd CD
  generalize p.d.length = np at n5 k5 ca0
  go_enter Try.func6, Try.ntmps6
  go_wp2_with (first | rw [← HW1.out] | refine wpList_load_row rfl 26 (.tmp 3) rfl w.heap.size rfl 26 A (0, 0) _ G1.out Try.underlying26 rfl ia.out ?_)
  refine (EA.out w1 BE.out).mono ?_
  rintro e wk1 ⟨x1, c1, rfl, _, hb⟩
  have qBE := BE.out.trans (hb.mono BE.out.size)
  clear BE
  have BE := Lib.hid qBE
  clear qBE
  rw [E0.out]
  generalize (encV p).length = n
  clear hb
  go_wp2_with fail
  refine (AL.out wk1).mono ?_
  rintro e wk2 ⟨rfl, hb⟩
  have qBE := BE.out.trans (hb.mono BE.out.size)
  clear BE
  have BE := Lib.hid qBE
  clear qBE

  clear hb
  go_wp2
  go_ret
  exact ⟨rfl, BE.out⟩

set_option maxRecDepth 100000 in
set_option maxHeartbeats 2000000 in
theorem cut_neg {p : Rq} (hp : RQ p) (h5 : p.d.length ≤ 5000) (dv : Value) (at_ : Int) (m : Int) (w : World) (hd : Sees w dv p.d) (hr : rightQ p = true) (hn : at_ < 0) :
    Calls Try.prog 6 #[.agg (rc p dv).toArray, .int .i64 at_, .int .u8 m] w (AliveP w) := by
  have ia := Lib.hid (i26 hp dv)
  obtain ⟨A, hA⟩ : ∃ A, A = (rc p dv).toArray := ⟨_, rfl⟩
  rw [← hA] at ia ⊢
  obtain ⟨xa, ca, ea, xa63⟩ := hd.form
  obtain ⟨w1, hw1⟩ : ∃ w1, w1 = w.alloc (.cells A 26) := ⟨_, rfl⟩
  have b1 : Below w.heap.size w w1 := by rw [hw1]; exact (Below.refl _ _).alloc (Nat.le_refl _) _
  have g1 : w1.heap[w.heap.size]? = some (.cells A 26 (0, 0)) := by rw [hw1]; exact heap_alloc_new w _
  have CD : Hid (∀ W : World, W.heap[w.heap.size]? = some (.cells A 26 (0, 0)) → W.cell? ⟨w.heap.size, 137, none⟩ = some (.slice xa p.d.length ca) ∧ W.cell? ⟨w.heap.size, 0, none⟩ = some (.int .i64 p.k)) := fun W h => by
    rw [hA] at h
    exact ⟨by rw [← ea]; exact row_dat hp h, by rw [cell_of_row W _ _ _ _ _ h]; rfl⟩
  have ca0 := (CD.out w1 g1).1
  have BE := Lib.hid b1
  have G1 := Lib.hid g1
  have HW1 := Lib.hid hw1
  have hbd := hd.1
  have EA : Hid (∀ W, Below w.heap.size w W → Calls Try.prog 8 #[.agg A] W (EncP W p)) := fun W h => by rw [hA]; exact encodeC hp h5 dv W (hd.below h)
  have AL : Hid (∀ W : World, Calls Try.prog 7 #[] W (AliveP W)) := alive
  have n5 : decide (5000 < p.d.length) = false := decide_eq_false (by omega)
  have k5 : ((p.d.length : Nat) : Int) ≤ 5000 := by omega
  have d0 : decide (at_ < 0) = true := decide_eq_true hn
  generalize p.d.length = np at n5 k5 ca0
  have E0 := Lib.hid (encV_yes hr).2
  clear hw1 b1 g1 hd hA ea h5 hr hp xa63 hbd CD
  go_enter Try.func6, Try.ntmps6
  go_wp2_with (first | rw [← HW1.out] | refine wpList_load_row rfl 26 (.tmp 3) rfl w.heap.size rfl 26 A (0, 0) _ G1.out Try.underlying26 rfl ia.out ?_)
  refine (EA.out w1 BE.out).mono ?_
  rintro e wk1 ⟨x1, c1, rfl, _, hb⟩
  have qBE := BE.out.trans (hb.mono BE.out.size)
  clear BE
  have BE := Lib.hid qBE
  clear qBE
  rw [E0.out]
  clear hb
  go_wp2_with fail
  refine (AL.out wk1).mono ?_
  rintro e wk2 ⟨rfl, hb⟩
  have qBE := BE.out.trans (hb.mono BE.out.size)
  clear BE
  have BE := Lib.hid qBE
  clear qBE

  clear hb
  go_wp2
  go_ret
  exact ⟨rfl, BE.out⟩

set_option maxRecDepth 100000 in
set_option maxHeartbeats 2000000 in
theorem cut_far {p : Rq} (hp : RQ p) (h5 : p.d.length ≤ 5000) (dv : Value) (at_ : Int) (m : Int) (w : World) (hd : Sees w dv p.d) (hr : rightQ p = true) (hn : ((encV p).length : Int) ≤ at_) :
    Calls Try.prog 6 #[.agg (rc p dv).toArray, .int .i64 at_, .int .u8 m] w (AliveP w) := by
  have ia := Lib.hid (i26 hp dv)
  obtain ⟨A, hA⟩ : ∃ A, A = (rc p dv).toArray := ⟨_, rfl⟩
  rw [← hA] at ia ⊢
  obtain ⟨xa, ca, ea, xa63⟩ := hd.form
  obtain ⟨w1, hw1⟩ : ∃ w1, w1 = w.alloc (.cells A 26) := ⟨_, rfl⟩
  have b1 : Below w.heap.size w w1 := by rw [hw1]; exact (Below.refl _ _).alloc (Nat.le_refl _) _
  have g1 : w1.heap[w.heap.size]? = some (.cells A 26 (0, 0)) := by rw [hw1]; exact heap_alloc_new w _
  have CD : Hid (∀ W : World, W.heap[w.heap.size]? = some (.cells A 26 (0, 0)) → W.cell? ⟨w.heap.size, 137, none⟩ = some (.slice xa p.d.length ca) ∧ W.cell? ⟨w.heap.size, 0, none⟩ = some (.int .i64 p.k)) := fun W h => by
    rw [hA] at h
    exact ⟨by rw [← ea]; exact row_dat hp h, by rw [cell_of_row W _ _ _ _ _ h]; rfl⟩
  have ca0 := (CD.out w1 g1).1
  have BE := Lib.hid b1
  have G1 := Lib.hid g1
  have HW1 := Lib.hid hw1
  have hbd := hd.1
  have EA : Hid (∀ W, Below w.heap.size w W → Calls Try.prog 8 #[.agg A] W (EncP W p)) := fun W h => by rw [hA]; exact encodeC hp h5 dv W (hd.below h)
  have AL : Hid (∀ W : World, Calls Try.prog 7 #[] W (AliveP W)) := alive
  have n5 : decide (5000 < p.d.length) = false := decide_eq_false (by omega)
  have k5 : ((p.d.length : Nat) : Int) ≤ 5000 := by omega
  have h0 : ¬ at_ < 0 := by omega
  have d0 : decide (at_ < 0) = false := decide_eq_false h0
  have d1 : decide (((encV p).length : Int) ≤ at_) = true := decide_eq_true hn
  generalize p.d.length = np at n5 k5 ca0
  have E0 := Lib.hid (encV_yes hr).2
  clear hw1 b1 g1 hd hA ea h5 hr hp xa63 hbd CD
  go_enter Try.func6, Try.ntmps6
  go_wp2_with (first | rw [← HW1.out] | refine wpList_load_row rfl 26 (.tmp 3) rfl w.heap.size rfl 26 A (0, 0) _ G1.out Try.underlying26 rfl ia.out ?_)
  refine (EA.out w1 BE.out).mono ?_
  rintro e wk1 ⟨x1, c1, rfl, _, hb⟩
  have qBE := BE.out.trans (hb.mono BE.out.size)
  clear BE
  have BE := Lib.hid qBE
  clear qBE
  rw [E0.out]
  clear hb
  go_wp2_with fail
  refine (AL.out wk1).mono ?_
  rintro e wk2 ⟨rfl, hb⟩
  have qBE := BE.out.trans (hb.mono BE.out.size)
  clear BE
  have BE := Lib.hid qBE
  clear qBE

  clear hb
  go_wp2
  go_ret
  exact ⟨rfl, BE.out⟩

set_option maxRecDepth 100000 in
set_option maxHeartbeats 1000000 in
theorem cut_great {p : Rq} (hp : RQ (bare p)) (dv : Value) (at_ m : Int) (w : World) (hd : Sees w dv p.d) (hg : 5000 < p.d.length) :
    Calls Try.prog 6 #[.agg (rc p dv).toArray, .int .i64 at_, .int .u8 m] w (AliveP w) := by
  obtain ⟨xa, ca, _, ka, ea⟩ := great_cell hp hd
  generalize (rc p dv).toArray = A at *
  obtain ⟨w1, hw1⟩ : ∃ w1, w1 = w.alloc (.cells A 26) := ⟨_, rfl⟩
  have b1 : Below w.heap.size w w1 := by rw [hw1]; exact (Below.refl _ _).alloc (Nat.le_refl _) _
  have g1 : w1.heap[w.heap.size]? = some (.cells A 26 (0, 0)) := by rw [hw1]; exact heap_alloc_new w _
  have ca0 : w1.cell? ⟨w.heap.size, 137, none⟩ = some (.slice xa p.d.length ca) := by rw [cell_of_row w1 _ _ _ _ _ g1]; exact ea
  have BE := Lib.hid b1
  have HW1 := Lib.hid hw1
  clear hw1 b1 g1 hd ea hp
  generalize p.d.length = np at *
  have n5 : decide (5000 < np) = true := decide_eq_true hg
  have k5 : (5000 : Int) < (np : Int) := by omega
  clear hg
  go_enter Try.func6, Try.ntmps6
  go_wp2_with (rw [← HW1.out])
  refine (alive _).mono ?_
  rintro e w3 ⟨rfl, hb⟩
  have B3 := Lib.hid (BE.out.trans (hb.mono BE.out.size))
  clear hb
  go_wp2_with fail
  go_ret
  exact ⟨rfl, B3.out⟩
end Go.Proofs.Ytdohggpajhkkhaa
