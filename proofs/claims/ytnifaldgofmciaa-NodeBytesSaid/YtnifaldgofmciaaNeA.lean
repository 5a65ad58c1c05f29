/-
  Contracts of node.spliced, of keys, of values and of kids. Condition: the slices read as rows, no more than three hundred of each.
-/
import Derived.Test.YtnifaldgofmciaaNdZ
namespace Go.Proofs.Ytnifaldgofmciaa
open Go.RowKit
theorem blk_lt {w : World} {g : Nat} {o : Obj} (h : w.heap[g]? = some o) : g < w.heap.size := (Array.getElem?_eq_some_iff.1 h).1
theorem fresh_le {a b : Nat} {v : Value} (h : fresh b v) (hab : a ≤ b) : fresh a v := fun k hk => Nat.le_trans hab (h k hk)
theorem sl_h {e : Nat} (t : TypeId) (ht : Try.prog.underlying t = some (.slice (Try.prog.elem t))) (hs : ∀ W, (sizeOf (Try.prog.elem t)).run Try.prog W = .ok e W) (x : Option Addr) (n c k : Nat) (hk : k ≤ c) (W : World) :
    (Instr.slice t (.slice x n c) none (some (.int .i64 (k : Int))) none).run Try.prog W = .ok (.slice (if c = 0 then x else x.map (·.add (0 * e))) k c) W := by
  rw [run_slice_h W t x n c ht .i64 k (by omega) (by omega), hs]
  simp only [Result.andThen, sliced, Int.toNat_natCast, Nat.sub_zero]
theorem sl_l {e : Nat} (t : TypeId) (ht : Try.prog.underlying t = some (.slice (Try.prog.elem t))) (hs : ∀ W, (sizeOf (Try.prog.elem t)).run Try.prog W = .ok e W) (x : Option Addr) (n c k : Nat) (hk : k ≤ n) (W : World) :
    (Instr.slice t (.slice x n c) (some (.int .i64 (k : Int))) none none).run Try.prog W = .ok (.slice (if c = k then x else x.map (·.add (k * e))) (n - k) (c - k)) W := by
  rw [run_slice_l W t x n c ht .i64 k (by omega) (by omega), hs]
  simp only [Result.andThen, sliced, Int.toNat_natCast]
theorem mn (a b : Nat) (W : World) : (Builtin.min_ #[3, 3] 3 #[.int .i64 (a : Int), .int .i64 (b : Int)]).run Try.prog W = .ok (.int .i64 ((min a b : Nat) : Int)) W := by
  rw [run_min_int2]
  congr 2
  split <;> omega
theorem take_min {α : Type} (xs : List α) (k : Nat) : xs.take (min k xs.length) = xs.take k := by
  by_cases h : k ≤ xs.length
  · rw [Nat.min_eq_left h]
  · rw [Nat.min_eq_right (by omega), List.take_length, List.take_of_length_le (by omega)]
theorem drop_min {α : Type} (xs : List α) (k : Nat) : xs.drop (min k xs.length) = xs.drop k := by
  by_cases h : k ≤ xs.length
  · rw [Nat.min_eq_left h]
  · rw [Nat.min_eq_right (by omega), List.drop_length, List.drop_of_length_le (by omega)]
set_option maxRecDepth 100000 in
set_option maxHeartbeats 8000000 in
theorem splK (xs ys : List Int) (fr to : Nat) (x : Option Addr) (n c : Nat) (z : Option Addr) (zl zc : Nat) (w : World) (hv : ES key1 1 w (.slice x n c) xs) (hnc : n ≤ c) (ho : ES key1 1 w (.slice z zl zc) ys) (hl : xs.length ≤ 300) (hy : ys.length ≤ 300) :
    Calls Try.prog 42 #[.slice x n c, .int .i64 (fr : Int), .int .i64 (to : Int), .slice z zl zc] w (ConcP key1 1 w (xs.take fr ++ ys ++ xs.drop to)) := by
  have hn : n = xs.length := by obtain ⟨x', c', e⟩ := hv.len; injection e
  obtain ⟨k1, hk1⟩ : ∃ k1, k1 = min fr n := ⟨_, rfl⟩
  obtain ⟨k2, hk2⟩ : ∃ k2, k2 = min to n := ⟨_, rfl⟩
  have T1 : xs.take fr = xs.take k1 := by rw [hk1, hn]; exact (take_min xs fr).symm
  have D2 : xs.drop to = xs.drop k2 := by rw [hk2, hn]; exact (drop_min xs to).symm
  have k1n : k1 ≤ n := by omega
  have k2n : k2 ≤ n := by omega
  have M1 : ∀ W, (Builtin.min_ #[3, 3] 3 #[.int .i64 (fr : Int), .int .i64 (n : Int)]).run Try.prog W = .ok (.int .i64 (k1 : Int)) W := by rw [hk1]; exact mn fr n
  have M2 : ∀ W, (Builtin.min_ #[3, 3] 3 #[.int .i64 (to : Int), .int .i64 (n : Int)]).run Try.prog W = .ok (.int .i64 (k2 : Int)) W := by rw [hk2]; exact mn to n
  have S1 := sl_h (e := 1) 22 (by kernel_rfl) (fun W => by kernel_rfl) x n c k1 (by omega)
  have S2 := sl_l (e := 1) 22 (by kernel_rfl) (fun W => by kernel_rfl) x n c k2 k2n
  have R1 := hv.take (k := k1) (c' := c) k1n
  have R2 := hv.drop (k := k2) (c' := c - k2) k2n hnc
  generalize (if c = 0 then x else x.map (·.add (0 * 1))) = x1 at S1 R1
  generalize (if c = k2 then x else x.map (·.add (k2 * 1))) = x2 at S2 R2
  have E1 := Lib.hid R1
  have E2 := Lib.hid ho
  have E3 := Lib.hid R2
  rw [T1, D2]
  have l1 : (xs.take k1).length ≤ 300 := by rw [List.length_take]; omega
  have l2 : (xs.drop k2).length ≤ 300 := by rw [List.length_drop]; omega
  have CC : Hid (∀ (W : World) (g : Nat), W.heap[g]? = some (.cells #[.slice x1 k1 c, .slice z zl zc, .slice x2 (n - k2) (c - k2)] 22 (0, 0)) → ES key1 1 W (.slice x1 k1 c) (xs.take k1) → ES key1 1 W (.slice z zl zc) ys → ES key1 1 W (.slice x2 (n - k2) (c - k2)) (xs.drop k2) → Calls Try.prog 39 #[.slice (some ⟨g, 0, none⟩) 3 3] W (ConcP key1 1 W (xs.take k1 ++ ys ++ xs.drop k2))) := fun W g h3 h4 h5 h6 => by
    have := concK [(.slice x1 k1 c, xs.take k1), (.slice z zl zc, ys), (.slice x2 (n - k2) (c - k2), xs.drop k2)] _ g W h3 rfl (by
      intro p hp
      simp only [List.mem_cons, List.not_mem_nil, or_false] at hp
      rcases hp with rfl | rfl | rfl
      · exact h4
      · exact h5
      · exact h6) (by simp only [List.flatMap_cons, List.flatMap_nil, List.length_append, List.length_nil]; omega) (by simp)
    simp only [List.flatMap_cons, List.flatMap_nil, List.append_nil, List.append_assoc] at this ⊢
    exact this
  have hni : (n : Int) ≤ 300 := by omega
  generalize xs.take k1 ++ ys ++ xs.drop k2 = L at *
  clear hv ho hn hk1 hk2 T1 D2 R1 R2 l1 l2 hl hy
  have bnd : k1 ≤ c := by omega
  go_enter Try.func42, Try.ntmps42
  go_wp2_with fail
  refine wp_region_held_drew (S := fun W => Below w.heap.size w W) (by kernel_rfl) ((Below.refl _ _).drew) (fun hS => ?_)
  have hb0 : Below w.heap.size w w.drew := (Below.refl _ _).drew
  have qE1 := E1.out.below hb0
  have qE2 := E2.out.below hb0
  have qE3 := E3.out.below hb0
  clear hb0 E1 E2 E3
  generalize w.drew = Wss at hS qE1 qE2 qE3 ⊢
  have E1 := Lib.hid qE1
  have E2 := Lib.hid qE2
  have E3 := Lib.hid qE3
  clear qE1 qE2 qE3
  refine' wpAnyH_take (i := 0) ?h1x0s ?hsx0s ?hfx0s ?hrx0s ?hQx0s (Or.inl ⟨?hwx0s, ?hyx0s⟩) hS ?restx0s
  case h1x0s => (simp only [List.getElem?_toArray, List.getElem?_cons_zero]; rfl)
  case hsx0s | hfx0s | hrx0s => kernel_rfl
  case hQx0s => exact fun _ _ _ h => h
  case hwx0s => rfl
  case hyx0s =>
    intro W hW
    go_simp
    try with_reducible rfl
  simp only [Act.put, List.setIfInBounds_toArray, List.set_cons_succ, List.set_cons_zero]
  refine' wpAnyH_take (i := 1) ?h1x1s ?hsx1s ?hfx1s ?hrx1s ?hQx1s (Or.inl ⟨?hwx1s, ?hyx1s⟩) hS ?restx1s
  case h1x1s => (simp only [List.getElem?_toArray, List.getElem?_cons_succ, List.getElem?_cons_zero]; rfl)
  case hsx1s | hfx1s | hrx1s => kernel_rfl
  case hQx1s => exact fun _ _ _ h => h
  case hwx1s => rfl
  case hyx1s =>
    intro W hW
    go_simp
    try with_reducible rfl
  simp only [Act.put, List.setIfInBounds_toArray, List.set_cons_succ, List.set_cons_zero]
  refine' wpAnyH_take (i := 2) ?h1x2s ?hsx2s ?hfx2s ?hrx2s ?hQx2s (Or.inl ⟨?hwx2s, ?hyx2s⟩) hS ?restx2s
  case h1x2s => (simp only [List.getElem?_toArray, List.getElem?_cons_succ, List.getElem?_cons_zero]; rfl)
  case hsx2s | hfx2s | hrx2s => kernel_rfl
  case hQx2s => exact fun _ _ _ h => h
  case hwx2s => rfl
  case hyx2s =>
    intro W hW
    go_simp
    try with_reducible rfl
  simp only [Act.put, List.setIfInBounds_toArray, List.set_cons_succ, List.set_cons_zero]
  refine' wpAnyH_take (i := 6) ?h1x6s ?hsx6s ?hfx6s ?hrx6s ?hQx6s (Or.inl ⟨?hwx6s, ?hyx6s⟩) hS ?restx6s
  case h1x6s => (simp only [List.getElem?_toArray, List.getElem?_cons_succ, List.getElem?_cons_zero]; rfl)
  case hsx6s | hfx6s | hrx6s => kernel_rfl
  case hQx6s => exact fun _ _ _ h => h
  case hwx6s => rfl
  case hyx6s =>
    intro W hW
    go_simp
    try with_reducible rfl
  simp only [Act.put, List.setIfInBounds_toArray, List.set_cons_succ, List.set_cons_zero]
  refine' wpAnyH_take (i := 7) ?h1x7s ?hsx7s ?hfx7s ?hrx7s ?hQx7s (Or.inl ⟨?hwx7s, ?hyx7s⟩) hS ?restx7s
  case h1x7s => (simp only [List.getElem?_toArray, List.getElem?_cons_succ, List.getElem?_cons_zero]; rfl)
  case hsx7s | hfx7s | hrx7s => kernel_rfl
  case hQx7s => exact fun _ _ _ h => h
  case hwx7s => rfl
  case hyx7s =>
    intro W hW
    go_simp
    try with_reducible rfl
  simp only [Act.put, List.setIfInBounds_toArray, List.set_cons_succ, List.set_cons_zero]
  refine' wpAnyH_take (i := 8) ?h1x8s ?hsx8s ?hfx8s ?hrx8s ?hQx8s (Or.inl ⟨?hwx8s, ?hyx8s⟩) hS ?restx8s
  case h1x8s => (simp only [List.getElem?_toArray, List.getElem?_cons_succ, List.getElem?_cons_zero]; rfl)
  case hsx8s | hfx8s | hrx8s => kernel_rfl
  case hQx8s => exact fun _ _ _ h => h
  case hwx8s => rfl
  case hyx8s =>
    intro W hW
    go_simp
    try with_reducible rfl
  simp only [Act.put, List.setIfInBounds_toArray, List.set_cons_succ, List.set_cons_zero]
  refine' wpAnyH_take (i := 9) ?h1x9s ?hsx9s ?hfx9s ?hrx9s ?hQx9s (Or.inl ⟨?hwx9s, ?hyx9s⟩) hS ?restx9s
  case h1x9s => (simp only [List.getElem?_toArray, List.getElem?_cons_succ, List.getElem?_cons_zero]; rfl)
  case hsx9s | hfx9s | hrx9s => kernel_rfl
  case hQx9s => exact fun _ _ _ h => h
  case hwx9s => rfl
  case hyx9s =>
    intro W hW
    go_simp
    try with_reducible rfl
  simp only [Act.put, List.setIfInBounds_toArray, List.set_cons_succ, List.set_cons_zero]
  refine' wpAnyH_take (i := 3) ?h1x3s ?hsx3s ?hfx3s ?hrx3s ?hQx3s (Or.inl ⟨?hwx3s, ?hyx3s⟩) hS ?restx3s
  case h1x3s => (simp only [List.getElem?_toArray, List.getElem?_cons_succ, List.getElem?_cons_zero]; rfl)
  case hsx3s | hfx3s | hrx3s => kernel_rfl
  case hQx3s => exact fun _ _ _ h => h
  case hwx3s => rfl
  case hyx3s =>
    intro W hW
    go_simp
    try with_reducible rfl
  simp only [Act.put, List.setIfInBounds_toArray, List.set_cons_succ, List.set_cons_zero]
  refine' wpAnyH_take (i := 10) ?h1x10s ?hsx10s ?hfx10s ?hrx10s ?hQx10s (Or.inl ⟨?hwx10s, ?hyx10s⟩) hS ?restx10s
  case h1x10s => (simp only [List.getElem?_toArray, List.getElem?_cons_succ, List.getElem?_cons_zero]; rfl)
  case hsx10s | hfx10s | hrx10s => kernel_rfl
  case hQx10s => exact fun _ _ _ h => h
  case hwx10s => rfl
  case hyx10s =>
    intro W hW
    go_simp
    try with_reducible rfl
  simp only [Act.put, List.setIfInBounds_toArray, List.set_cons_succ, List.set_cons_zero]
  refine' wpAnyH_take (i := 4) ?h1x4s ?hsx4s ?hfx4s ?hrx4s ?hQx4s (Or.inl ⟨?hwx4s, ?hyx4s⟩) hS ?restx4s
  case h1x4s => (simp only [List.getElem?_toArray, List.getElem?_cons_succ, List.getElem?_cons_zero]; rfl)
  case hsx4s | hfx4s | hrx4s => kernel_rfl
  case hQx4s => exact fun _ _ _ h => h
  case hwx4s => rfl
  case hyx4s =>
    intro W hW
    go_simp
    try with_reducible rfl
  simp only [Act.put, List.setIfInBounds_toArray, List.set_cons_succ, List.set_cons_zero]
  refine' wpAnyH_take (i := 11) ?h1x11s ?hsx11s ?hfx11s ?hrx11s ?hQx11s (Or.inl ⟨?hwx11s, ?hyx11s⟩) hS ?restx11s
  case h1x11s => (simp only [List.getElem?_toArray, List.getElem?_cons_succ, List.getElem?_cons_zero]; rfl)
  case hsx11s | hfx11s | hrx11s => kernel_rfl
  case hQx11s => exact fun _ _ _ h => h
  case hwx11s => rfl
  case hyx11s =>
    intro W hW
    go_simp
    try with_reducible rfl
  simp only [Act.put, List.setIfInBounds_toArray, List.set_cons_succ, List.set_cons_zero]
  refine' wpAnyH_take (i := 5) ?h1x5s ?hsx5s ?hfx5s ?hrx5s ?hQx5s (Or.inl ⟨?hwx5s, ?hyx5s⟩) hS ?restx5s
  case h1x5s => (simp only [List.getElem?_toArray, List.getElem?_cons_succ, List.getElem?_cons_zero]; rfl)
  case hsx5s | hfx5s | hrx5s => kernel_rfl
  case hQx5s => exact fun _ _ _ h => h
  case hwx5s => rfl
  case hyx5s =>
    intro W hW
    go_simp
    try with_reducible rfl
  simp only [Act.put, List.setIfInBounds_toArray, List.set_cons_succ, List.set_cons_zero]
  refine' wpAnyH_take (i := 12) ?h1x12s ?hsx12s ?hfx12s ?hrx12s ?hQx12s (Or.inl ⟨?hwx12s, ?hyx12s⟩) hS ?restx12s
  case h1x12s => (simp only [List.getElem?_toArray, List.getElem?_cons_succ, List.getElem?_cons_zero]; rfl)
  case hsx12s | hfx12s | hrx12s => kernel_rfl
  case hQx12s => exact fun _ _ _ h => h
  case hwx12s => rfl
  case hyx12s =>
    intro W hW
    go_simp
    try with_reducible rfl
  simp only [Act.put, List.setIfInBounds_toArray, List.set_cons_succ, List.set_cons_zero]
  refine wpAnyH_ready (rs := [13]) (by kernel_rfl) (by simp) ?_
  refine' (AllReadyH.cons ?hoc13s (fun K hK => ?stc13s) AllReadyH.nil)
  case hoc13s => (simp only [List.getElem?_toArray, List.getElem?_cons_succ, List.getElem?_cons_zero]; rfl)
  go_simp
  have hb := (Below.refl Wss.heap.size Wss).alloc (Nat.le_refl _) (.cells #[.slice x1 k1 c, .slice z zl zc, .slice x2 (n - k2) (c - k2)] 22)
  refine hK.out _ _ (hS.trans (hb.mono hS.size)) (fun hHeld => ?_)
  clear hK K
  try simp only [Act.put, List.setIfInBounds_toArray, List.set_cons_succ, List.set_cons_zero]
  have qRP := heap_alloc_new Wss (.cells #[.slice x1 k1 c, .slice z zl zc, .slice x2 (n - k2) (c - k2)] 22)
  have hgp := hS.size
  have qE1 := E1.out.below hb
  have qE2 := E2.out.below hb
  have qE3 := E3.out.below hb
  clear hS
  have hS := hHeld
  clear hHeld
  clear hb
  clear E1 E2 E3
  generalize Wss.alloc (.cells #[.slice x1 k1 c, .slice z zl zc, .slice x2 (n - k2) (c - k2)] 22) = Wsx13 at *
  generalize Wss.heap.size = gp at *
  have E1 := Lib.hid qE1
  have E2 := Lib.hid qE2
  have E3 := Lib.hid qE3
  have RP := Lib.hid qRP
  clear qE1 qE2 qE3 qRP
  refine wpAnyH_ready (rs := [14]) (by kernel_rfl) (by simp) ?_
  refine' (AllReadyH.cons ?hoc14sx13 (fun K hK => ?stc14sx13) AllReadyH.nil)
  case hoc14sx13 => (simp only [List.getElem?_toArray, List.getElem?_cons_succ, List.getElem?_cons_zero]; rfl)
  go_simp
  refine (CC.out Wsx13 _ RP.out E1.out E2.out E3.out).mono ?_
  rintro e Wsx13x14 ⟨v, rfl, hes, hcap, hfr, hb⟩
  have E1 := Lib.hid (E1.out.below hb)
  have E2 := Lib.hid (E2.out.below hb)
  have E3 := Lib.hid (E3.out.below hb)
  have RP := Lib.hid ((hb.block _ (blk_lt RP.out)).trans RP.out)
  have hfr := fresh_le hfr hS.size
  have RES := Lib.hid hes
  clear hes
  go_wp2_with fail
  refine hK.out _ _ (hS.trans (hb.mono hS.size)) (fun hHeld => ?_)
  clear hK K
  try simp only [Act.put, List.setIfInBounds_toArray, List.set_cons_succ, List.set_cons_zero]
  clear hS
  have hS := hHeld
  clear hHeld
  clear hb
  refine' wpAnyH_take (i := 15) ?h1x15sx13x14 ?hsx15sx13x14 ?hfx15sx13x14 ?hrx15sx13x14 ?hQx15sx13x14 (Or.inl ⟨?hwx15sx13x14, ?hyx15sx13x14⟩) hS ?restx15sx13x14
  case h1x15sx13x14 => (simp only [List.getElem?_toArray, List.getElem?_cons_succ, List.getElem?_cons_zero]; rfl)
  case hsx15sx13x14 | hfx15sx13x14 | hrx15sx13x14 => kernel_rfl
  case hQx15sx13x14 => exact fun _ _ _ h => h
  case hwx15sx13x14 => rfl
  case hyx15sx13x14 =>
    intro W hW
    go_simp
    try with_reducible rfl
  simp only [Act.put, List.setIfInBounds_toArray, List.set_cons_succ, List.set_cons_zero]
  refine wpAnyH_done (by kernel_rfl) ?_ _
  go_wp2_with fail
  go_ret
  exact ⟨v, rfl, RES.out, hcap, hfr, hS⟩
set_option maxRecDepth 100000 in
set_option maxHeartbeats 8000000 in
theorem splV (xs ys : List (List Int)) (fr to : Nat) (x : Option Addr) (n c : Nat) (z : Option Addr) (zl zc : Nat) (w : World) (hv : ES val 44 w (.slice x n c) xs) (hnc : n ≤ c) (ho : ES val 44 w (.slice z zl zc) ys) (hl : xs.length ≤ 300) (hy : ys.length ≤ 300) :
    Calls Try.prog 43 #[.slice x n c, .int .i64 (fr : Int), .int .i64 (to : Int), .slice z zl zc] w (ConcP val 44 w (xs.take fr ++ ys ++ xs.drop to)) := by
  have hn : n = xs.length := by obtain ⟨x', c', e⟩ := hv.len; injection e
  obtain ⟨k1, hk1⟩ : ∃ k1, k1 = min fr n := ⟨_, rfl⟩
  obtain ⟨k2, hk2⟩ : ∃ k2, k2 = min to n := ⟨_, rfl⟩
  have T1 : xs.take fr = xs.take k1 := by rw [hk1, hn]; exact (take_min xs fr).symm
  have D2 : xs.drop to = xs.drop k2 := by rw [hk2, hn]; exact (drop_min xs to).symm
  have k1n : k1 ≤ n := by omega
  have k2n : k2 ≤ n := by omega
  have M1 : ∀ W, (Builtin.min_ #[3, 3] 3 #[.int .i64 (fr : Int), .int .i64 (n : Int)]).run Try.prog W = .ok (.int .i64 (k1 : Int)) W := by rw [hk1]; exact mn fr n
  have M2 : ∀ W, (Builtin.min_ #[3, 3] 3 #[.int .i64 (to : Int), .int .i64 (n : Int)]).run Try.prog W = .ok (.int .i64 (k2 : Int)) W := by rw [hk2]; exact mn to n
  have S1 := sl_h (e := 44) 23 (by kernel_rfl) (fun W => by kernel_rfl) x n c k1 (by omega)
  have S2 := sl_l (e := 44) 23 (by kernel_rfl) (fun W => by kernel_rfl) x n c k2 k2n
  have R1 := hv.take (k := k1) (c' := c) k1n
  have R2 := hv.drop (k := k2) (c' := c - k2) k2n hnc
  generalize (if c = 0 then x else x.map (·.add (0 * 44))) = x1 at S1 R1
  generalize (if c = k2 then x else x.map (·.add (k2 * 44))) = x2 at S2 R2
  have E1 := Lib.hid R1
  have E2 := Lib.hid ho
  have E3 := Lib.hid R2
  rw [T1, D2]
  have l1 : (xs.take k1).length ≤ 300 := by rw [List.length_take]; omega
  have l2 : (xs.drop k2).length ≤ 300 := by rw [List.length_drop]; omega
  have CC : Hid (∀ (W : World) (g : Nat), W.heap[g]? = some (.cells #[.slice x1 k1 c, .slice z zl zc, .slice x2 (n - k2) (c - k2)] 23 (0, 0)) → ES val 44 W (.slice x1 k1 c) (xs.take k1) → ES val 44 W (.slice z zl zc) ys → ES val 44 W (.slice x2 (n - k2) (c - k2)) (xs.drop k2) → Calls Try.prog 40 #[.slice (some ⟨g, 0, none⟩) 3 3] W (ConcP val 44 W (xs.take k1 ++ ys ++ xs.drop k2))) := fun W g h3 h4 h5 h6 => by
    have := concV [(.slice x1 k1 c, xs.take k1), (.slice z zl zc, ys), (.slice x2 (n - k2) (c - k2), xs.drop k2)] _ g W h3 rfl (by
      intro p hp
      simp only [List.mem_cons, List.not_mem_nil, or_false] at hp
      rcases hp with rfl | rfl | rfl
      · exact h4
      · exact h5
      · exact h6) (by simp only [List.flatMap_cons, List.flatMap_nil, List.length_append, List.length_nil]; omega) (by simp)
    simp only [List.flatMap_cons, List.flatMap_nil, List.append_nil, List.append_assoc] at this ⊢
    exact this
  have hni : (n : Int) ≤ 300 := by omega
  generalize xs.take k1 ++ ys ++ xs.drop k2 = L at *
  clear hv ho hn hk1 hk2 T1 D2 R1 R2 l1 l2 hl hy
  have bnd : k1 ≤ c := by omega
  go_enter Try.func43, Try.ntmps43
  go_wp2_with fail
  refine wp_region_held_drew (S := fun W => Below w.heap.size w W) (by kernel_rfl) ((Below.refl _ _).drew) (fun hS => ?_)
  have hb0 : Below w.heap.size w w.drew := (Below.refl _ _).drew
  have qE1 := E1.out.below hb0
  have qE2 := E2.out.below hb0
  have qE3 := E3.out.below hb0
  clear hb0 E1 E2 E3
  generalize w.drew = Wss at hS qE1 qE2 qE3 ⊢
  have E1 := Lib.hid qE1
  have E2 := Lib.hid qE2
  have E3 := Lib.hid qE3
  clear qE1 qE2 qE3
  refine' wpAnyH_take (i := 0) ?h1x0s ?hsx0s ?hfx0s ?hrx0s ?hQx0s (Or.inl ⟨?hwx0s, ?hyx0s⟩) hS ?restx0s
  case h1x0s => (simp only [List.getElem?_toArray, List.getElem?_cons_zero]; rfl)
  case hsx0s | hfx0s | hrx0s => kernel_rfl
  case hQx0s => exact fun _ _ _ h => h
  case hwx0s => rfl
  case hyx0s =>
    intro W hW
    go_simp
    try with_reducible rfl
  simp only [Act.put, List.setIfInBounds_toArray, List.set_cons_succ, List.set_cons_zero]
  refine' wpAnyH_take (i := 1) ?h1x1s ?hsx1s ?hfx1s ?hrx1s ?hQx1s (Or.inl ⟨?hwx1s, ?hyx1s⟩) hS ?restx1s
  case h1x1s => (simp only [List.getElem?_toArray, List.getElem?_cons_succ, List.getElem?_cons_zero]; rfl)
  case hsx1s | hfx1s | hrx1s => kernel_rfl
  case hQx1s => exact fun _ _ _ h => h
  case hwx1s => rfl
  case hyx1s =>
    intro W hW
    go_simp
    try with_reducible rfl
  simp only [Act.put, List.setIfInBounds_toArray, List.set_cons_succ, List.set_cons_zero]
  refine' wpAnyH_take (i := 2) ?h1x2s ?hsx2s ?hfx2s ?hrx2s ?hQx2s (Or.inl ⟨?hwx2s, ?hyx2s⟩) hS ?restx2s
  case h1x2s => (simp only [List.getElem?_toArray, List.getElem?_cons_succ, List.getElem?_cons_zero]; rfl)
  case hsx2s | hfx2s | hrx2s => kernel_rfl
  case hQx2s => exact fun _ _ _ h => h
  case hwx2s => rfl
  case hyx2s =>
    intro W hW
    go_simp
    try with_reducible rfl
  simp only [Act.put, List.setIfInBounds_toArray, List.set_cons_succ, List.set_cons_zero]
  refine' wpAnyH_take (i := 6) ?h1x6s ?hsx6s ?hfx6s ?hrx6s ?hQx6s (Or.inl ⟨?hwx6s, ?hyx6s⟩) hS ?restx6s
  case h1x6s => (simp only [List.getElem?_toArray, List.getElem?_cons_succ, List.getElem?_cons_zero]; rfl)
  case hsx6s | hfx6s | hrx6s => kernel_rfl
  case hQx6s => exact fun _ _ _ h => h
  case hwx6s => rfl
  case hyx6s =>
    intro W hW
    go_simp
    try with_reducible rfl
  simp only [Act.put, List.setIfInBounds_toArray, List.set_cons_succ, List.set_cons_zero]
  refine' wpAnyH_take (i := 7) ?h1x7s ?hsx7s ?hfx7s ?hrx7s ?hQx7s (Or.inl ⟨?hwx7s, ?hyx7s⟩) hS ?restx7s
  case h1x7s => (simp only [List.getElem?_toArray, List.getElem?_cons_succ, List.getElem?_cons_zero]; rfl)
  case hsx7s | hfx7s | hrx7s => kernel_rfl
  case hQx7s => exact fun _ _ _ h => h
  case hwx7s => rfl
  case hyx7s =>
    intro W hW
    go_simp
    try with_reducible rfl
  simp only [Act.put, List.setIfInBounds_toArray, List.set_cons_succ, List.set_cons_zero]
  refine' wpAnyH_take (i := 8) ?h1x8s ?hsx8s ?hfx8s ?hrx8s ?hQx8s (Or.inl ⟨?hwx8s, ?hyx8s⟩) hS ?restx8s
  case h1x8s => (simp only [List.getElem?_toArray, List.getElem?_cons_succ, List.getElem?_cons_zero]; rfl)
  case hsx8s | hfx8s | hrx8s => kernel_rfl
  case hQx8s => exact fun _ _ _ h => h
  case hwx8s => rfl
  case hyx8s =>
    intro W hW
    go_simp
    try with_reducible rfl
  simp only [Act.put, List.setIfInBounds_toArray, List.set_cons_succ, List.set_cons_zero]
  refine' wpAnyH_take (i := 9) ?h1x9s ?hsx9s ?hfx9s ?hrx9s ?hQx9s (Or.inl ⟨?hwx9s, ?hyx9s⟩) hS ?restx9s
  case h1x9s => (simp only [List.getElem?_toArray, List.getElem?_cons_succ, List.getElem?_cons_zero]; rfl)
  case hsx9s | hfx9s | hrx9s => kernel_rfl
  case hQx9s => exact fun _ _ _ h => h
  case hwx9s => rfl
  case hyx9s =>
    intro W hW
    go_simp
    try with_reducible rfl
  simp only [Act.put, List.setIfInBounds_toArray, List.set_cons_succ, List.set_cons_zero]
  refine' wpAnyH_take (i := 3) ?h1x3s ?hsx3s ?hfx3s ?hrx3s ?hQx3s (Or.inl ⟨?hwx3s, ?hyx3s⟩) hS ?restx3s
  case h1x3s => (simp only [List.getElem?_toArray, List.getElem?_cons_succ, List.getElem?_cons_zero]; rfl)
  case hsx3s | hfx3s | hrx3s => kernel_rfl
  case hQx3s => exact fun _ _ _ h => h
  case hwx3s => rfl
  case hyx3s =>
    intro W hW
    go_simp
    try with_reducible rfl
  simp only [Act.put, List.setIfInBounds_toArray, List.set_cons_succ, List.set_cons_zero]
  refine' wpAnyH_take (i := 10) ?h1x10s ?hsx10s ?hfx10s ?hrx10s ?hQx10s (Or.inl ⟨?hwx10s, ?hyx10s⟩) hS ?restx10s
  case h1x10s => (simp only [List.getElem?_toArray, List.getElem?_cons_succ, List.getElem?_cons_zero]; rfl)
  case hsx10s | hfx10s | hrx10s => kernel_rfl
  case hQx10s => exact fun _ _ _ h => h
  case hwx10s => rfl
  case hyx10s =>
    intro W hW
    go_simp
    try with_reducible rfl
  simp only [Act.put, List.setIfInBounds_toArray, List.set_cons_succ, List.set_cons_zero]
  refine' wpAnyH_take (i := 4) ?h1x4s ?hsx4s ?hfx4s ?hrx4s ?hQx4s (Or.inl ⟨?hwx4s, ?hyx4s⟩) hS ?restx4s
  case h1x4s => (simp only [List.getElem?_toArray, List.getElem?_cons_succ, List.getElem?_cons_zero]; rfl)
  case hsx4s | hfx4s | hrx4s => kernel_rfl
  case hQx4s => exact fun _ _ _ h => h
  case hwx4s => rfl
  case hyx4s =>
    intro W hW
    go_simp
    try with_reducible rfl
  simp only [Act.put, List.setIfInBounds_toArray, List.set_cons_succ, List.set_cons_zero]
  refine' wpAnyH_take (i := 11) ?h1x11s ?hsx11s ?hfx11s ?hrx11s ?hQx11s (Or.inl ⟨?hwx11s, ?hyx11s⟩) hS ?restx11s
  case h1x11s => (simp only [List.getElem?_toArray, List.getElem?_cons_succ, List.getElem?_cons_zero]; rfl)
  case hsx11s | hfx11s | hrx11s => kernel_rfl
  case hQx11s => exact fun _ _ _ h => h
  case hwx11s => rfl
  case hyx11s =>
    intro W hW
    go_simp
    try with_reducible rfl
  simp only [Act.put, List.setIfInBounds_toArray, List.set_cons_succ, List.set_cons_zero]
  refine' wpAnyH_take (i := 5) ?h1x5s ?hsx5s ?hfx5s ?hrx5s ?hQx5s (Or.inl ⟨?hwx5s, ?hyx5s⟩) hS ?restx5s
  case h1x5s => (simp only [List.getElem?_toArray, List.getElem?_cons_succ, List.getElem?_cons_zero]; rfl)
  case hsx5s | hfx5s | hrx5s => kernel_rfl
  case hQx5s => exact fun _ _ _ h => h
  case hwx5s => rfl
  case hyx5s =>
    intro W hW
    go_simp
    try with_reducible rfl
  simp only [Act.put, List.setIfInBounds_toArray, List.set_cons_succ, List.set_cons_zero]
  refine' wpAnyH_take (i := 12) ?h1x12s ?hsx12s ?hfx12s ?hrx12s ?hQx12s (Or.inl ⟨?hwx12s, ?hyx12s⟩) hS ?restx12s
  case h1x12s => (simp only [List.getElem?_toArray, List.getElem?_cons_succ, List.getElem?_cons_zero]; rfl)
  case hsx12s | hfx12s | hrx12s => kernel_rfl
  case hQx12s => exact fun _ _ _ h => h
  case hwx12s => rfl
  case hyx12s =>
    intro W hW
    go_simp
    try with_reducible rfl
  simp only [Act.put, List.setIfInBounds_toArray, List.set_cons_succ, List.set_cons_zero]
  refine wpAnyH_ready (rs := [13]) (by kernel_rfl) (by simp) ?_
  refine' (AllReadyH.cons ?hoc13s (fun K hK => ?stc13s) AllReadyH.nil)
  case hoc13s => (simp only [List.getElem?_toArray, List.getElem?_cons_succ, List.getElem?_cons_zero]; rfl)
  go_simp
  have hb := (Below.refl Wss.heap.size Wss).alloc (Nat.le_refl _) (.cells #[.slice x1 k1 c, .slice z zl zc, .slice x2 (n - k2) (c - k2)] 23)
  refine hK.out _ _ (hS.trans (hb.mono hS.size)) (fun hHeld => ?_)
  clear hK K
  try simp only [Act.put, List.setIfInBounds_toArray, List.set_cons_succ, List.set_cons_zero]
  have qRP := heap_alloc_new Wss (.cells #[.slice x1 k1 c, .slice z zl zc, .slice x2 (n - k2) (c - k2)] 23)
  have hgp := hS.size
  have qE1 := E1.out.below hb
  have qE2 := E2.out.below hb
  have qE3 := E3.out.below hb
  clear hS
  have hS := hHeld
  clear hHeld
  clear hb
  clear E1 E2 E3
  generalize Wss.alloc (.cells #[.slice x1 k1 c, .slice z zl zc, .slice x2 (n - k2) (c - k2)] 23) = Wsx13 at *
  generalize Wss.heap.size = gp at *
  have E1 := Lib.hid qE1
  have E2 := Lib.hid qE2
  have E3 := Lib.hid qE3
  have RP := Lib.hid qRP
  clear qE1 qE2 qE3 qRP
  refine wpAnyH_ready (rs := [14]) (by kernel_rfl) (by simp) ?_
  refine' (AllReadyH.cons ?hoc14sx13 (fun K hK => ?stc14sx13) AllReadyH.nil)
  case hoc14sx13 => (simp only [List.getElem?_toArray, List.getElem?_cons_succ, List.getElem?_cons_zero]; rfl)
  go_simp
  refine (CC.out Wsx13 _ RP.out E1.out E2.out E3.out).mono ?_
  rintro e Wsx13x14 ⟨v, rfl, hes, hcap, hfr, hb⟩
  have E1 := Lib.hid (E1.out.below hb)
  have E2 := Lib.hid (E2.out.below hb)
  have E3 := Lib.hid (E3.out.below hb)
  have RP := Lib.hid ((hb.block _ (blk_lt RP.out)).trans RP.out)
  have hfr := fresh_le hfr hS.size
  have RES := Lib.hid hes
  clear hes
  go_wp2_with fail
  refine hK.out _ _ (hS.trans (hb.mono hS.size)) (fun hHeld => ?_)
  clear hK K
  try simp only [Act.put, List.setIfInBounds_toArray, List.set_cons_succ, List.set_cons_zero]
  clear hS
  have hS := hHeld
  clear hHeld
  clear hb
  refine' wpAnyH_take (i := 15) ?h1x15sx13x14 ?hsx15sx13x14 ?hfx15sx13x14 ?hrx15sx13x14 ?hQx15sx13x14 (Or.inl ⟨?hwx15sx13x14, ?hyx15sx13x14⟩) hS ?restx15sx13x14
  case h1x15sx13x14 => (simp only [List.getElem?_toArray, List.getElem?_cons_succ, List.getElem?_cons_zero]; rfl)
  case hsx15sx13x14 | hfx15sx13x14 | hrx15sx13x14 => kernel_rfl
  case hQx15sx13x14 => exact fun _ _ _ h => h
  case hwx15sx13x14 => rfl
  case hyx15sx13x14 =>
    intro W hW
    go_simp
    try with_reducible rfl
  simp only [Act.put, List.setIfInBounds_toArray, List.set_cons_succ, List.set_cons_zero]
  refine wpAnyH_done (by kernel_rfl) ?_ _
  go_wp2_with fail
  go_ret
  exact ⟨v, rfl, RES.out, hcap, hfr, hS⟩
set_option maxRecDepth 100000 in
set_option maxHeartbeats 8000000 in
theorem splQ (xs ys : List (Int × List Int)) (fr to : Nat) (x : Option Addr) (n c : Nat) (z : Option Addr) (zl zc : Nat) (w : World) (hv : ES kid 33 w (.slice x n c) xs) (hnc : n ≤ c) (ho : ES kid 33 w (.slice z zl zc) ys) (hl : xs.length ≤ 300) (hy : ys.length ≤ 300) :
    Calls Try.prog 44 #[.slice x n c, .int .i64 (fr : Int), .int .i64 (to : Int), .slice z zl zc] w (ConcP kid 33 w (xs.take fr ++ ys ++ xs.drop to)) := by
  have hn : n = xs.length := by obtain ⟨x', c', e⟩ := hv.len; injection e
  obtain ⟨k1, hk1⟩ : ∃ k1, k1 = min fr n := ⟨_, rfl⟩
  obtain ⟨k2, hk2⟩ : ∃ k2, k2 = min to n := ⟨_, rfl⟩
  have T1 : xs.take fr = xs.take k1 := by rw [hk1, hn]; exact (take_min xs fr).symm
  have D2 : xs.drop to = xs.drop k2 := by rw [hk2, hn]; exact (drop_min xs to).symm
  have k1n : k1 ≤ n := by omega
  have k2n : k2 ≤ n := by omega
  have M1 : ∀ W, (Builtin.min_ #[3, 3] 3 #[.int .i64 (fr : Int), .int .i64 (n : Int)]).run Try.prog W = .ok (.int .i64 (k1 : Int)) W := by rw [hk1]; exact mn fr n
  have M2 : ∀ W, (Builtin.min_ #[3, 3] 3 #[.int .i64 (to : Int), .int .i64 (n : Int)]).run Try.prog W = .ok (.int .i64 (k2 : Int)) W := by rw [hk2]; exact mn to n
  have S1 := sl_h (e := 33) 24 (by kernel_rfl) (fun W => by kernel_rfl) x n c k1 (by omega)
  have S2 := sl_l (e := 33) 24 (by kernel_rfl) (fun W => by kernel_rfl) x n c k2 k2n
  have R1 := hv.take (k := k1) (c' := c) k1n
  have R2 := hv.drop (k := k2) (c' := c - k2) k2n hnc
  generalize (if c = 0 then x else x.map (·.add (0 * 33))) = x1 at S1 R1
  generalize (if c = k2 then x else x.map (·.add (k2 * 33))) = x2 at S2 R2
  have E1 := Lib.hid R1
  have E2 := Lib.hid ho
  have E3 := Lib.hid R2
  rw [T1, D2]
  have l1 : (xs.take k1).length ≤ 300 := by rw [List.length_take]; omega
  have l2 : (xs.drop k2).length ≤ 300 := by rw [List.length_drop]; omega
  have CC : Hid (∀ (W : World) (g : Nat), W.heap[g]? = some (.cells #[.slice x1 k1 c, .slice z zl zc, .slice x2 (n - k2) (c - k2)] 24 (0, 0)) → ES kid 33 W (.slice x1 k1 c) (xs.take k1) → ES kid 33 W (.slice z zl zc) ys → ES kid 33 W (.slice x2 (n - k2) (c - k2)) (xs.drop k2) → Calls Try.prog 41 #[.slice (some ⟨g, 0, none⟩) 3 3] W (ConcP kid 33 W (xs.take k1 ++ ys ++ xs.drop k2))) := fun W g h3 h4 h5 h6 => by
    have := concQ [(.slice x1 k1 c, xs.take k1), (.slice z zl zc, ys), (.slice x2 (n - k2) (c - k2), xs.drop k2)] _ g W h3 rfl (by
      intro p hp
      simp only [List.mem_cons, List.not_mem_nil, or_false] at hp
      rcases hp with rfl | rfl | rfl
      · exact h4
      · exact h5
      · exact h6) (by simp only [List.flatMap_cons, List.flatMap_nil, List.length_append, List.length_nil]; omega) (by simp)
    simp only [List.flatMap_cons, List.flatMap_nil, List.append_nil, List.append_assoc] at this ⊢
    exact this
  have hni : (n : Int) ≤ 300 := by omega
  generalize xs.take k1 ++ ys ++ xs.drop k2 = L at *
  clear hv ho hn hk1 hk2 T1 D2 R1 R2 l1 l2 hl hy
  have bnd : k1 ≤ c := by omega
  go_enter Try.func44, Try.ntmps44
  go_wp2_with fail
  refine wp_region_held_drew (S := fun W => Below w.heap.size w W) (by kernel_rfl) ((Below.refl _ _).drew) (fun hS => ?_)
  have hb0 : Below w.heap.size w w.drew := (Below.refl _ _).drew
  have qE1 := E1.out.below hb0
  have qE2 := E2.out.below hb0
  have qE3 := E3.out.below hb0
  clear hb0 E1 E2 E3
  generalize w.drew = Wss at hS qE1 qE2 qE3 ⊢
  have E1 := Lib.hid qE1
  have E2 := Lib.hid qE2
  have E3 := Lib.hid qE3
  clear qE1 qE2 qE3
  refine' wpAnyH_take (i := 0) ?h1x0s ?hsx0s ?hfx0s ?hrx0s ?hQx0s (Or.inl ⟨?hwx0s, ?hyx0s⟩) hS ?restx0s
  case h1x0s => (simp only [List.getElem?_toArray, List.getElem?_cons_zero]; rfl)
  case hsx0s | hfx0s | hrx0s => kernel_rfl
  case hQx0s => exact fun _ _ _ h => h
  case hwx0s => rfl
  case hyx0s =>
    intro W hW
    go_simp
    try with_reducible rfl
  simp only [Act.put, List.setIfInBounds_toArray, List.set_cons_succ, List.set_cons_zero]
  refine' wpAnyH_take (i := 1) ?h1x1s ?hsx1s ?hfx1s ?hrx1s ?hQx1s (Or.inl ⟨?hwx1s, ?hyx1s⟩) hS ?restx1s
  case h1x1s => (simp only [List.getElem?_toArray, List.getElem?_cons_succ, List.getElem?_cons_zero]; rfl)
  case hsx1s | hfx1s | hrx1s => kernel_rfl
  case hQx1s => exact fun _ _ _ h => h
  case hwx1s => rfl
  case hyx1s =>
    intro W hW
    go_simp
    try with_reducible rfl
  simp only [Act.put, List.setIfInBounds_toArray, List.set_cons_succ, List.set_cons_zero]
  refine' wpAnyH_take (i := 2) ?h1x2s ?hsx2s ?hfx2s ?hrx2s ?hQx2s (Or.inl ⟨?hwx2s, ?hyx2s⟩) hS ?restx2s
  case h1x2s => (simp only [List.getElem?_toArray, List.getElem?_cons_succ, List.getElem?_cons_zero]; rfl)
  case hsx2s | hfx2s | hrx2s => kernel_rfl
  case hQx2s => exact fun _ _ _ h => h
  case hwx2s => rfl
  case hyx2s =>
    intro W hW
    go_simp
    try with_reducible rfl
  simp only [Act.put, List.setIfInBounds_toArray, List.set_cons_succ, List.set_cons_zero]
  refine' wpAnyH_take (i := 6) ?h1x6s ?hsx6s ?hfx6s ?hrx6s ?hQx6s (Or.inl ⟨?hwx6s, ?hyx6s⟩) hS ?restx6s
  case h1x6s => (simp only [List.getElem?_toArray, List.getElem?_cons_succ, List.getElem?_cons_zero]; rfl)
  case hsx6s | hfx6s | hrx6s => kernel_rfl
  case hQx6s => exact fun _ _ _ h => h
  case hwx6s => rfl
  case hyx6s =>
    intro W hW
    go_simp
    try with_reducible rfl
  simp only [Act.put, List.setIfInBounds_toArray, List.set_cons_succ, List.set_cons_zero]
  refine' wpAnyH_take (i := 7) ?h1x7s ?hsx7s ?hfx7s ?hrx7s ?hQx7s (Or.inl ⟨?hwx7s, ?hyx7s⟩) hS ?restx7s
  case h1x7s => (simp only [List.getElem?_toArray, List.getElem?_cons_succ, List.getElem?_cons_zero]; rfl)
  case hsx7s | hfx7s | hrx7s => kernel_rfl
  case hQx7s => exact fun _ _ _ h => h
  case hwx7s => rfl
  case hyx7s =>
    intro W hW
    go_simp
    try with_reducible rfl
  simp only [Act.put, List.setIfInBounds_toArray, List.set_cons_succ, List.set_cons_zero]
  refine' wpAnyH_take (i := 8) ?h1x8s ?hsx8s ?hfx8s ?hrx8s ?hQx8s (Or.inl ⟨?hwx8s, ?hyx8s⟩) hS ?restx8s
  case h1x8s => (simp only [List.getElem?_toArray, List.getElem?_cons_succ, List.getElem?_cons_zero]; rfl)
  case hsx8s | hfx8s | hrx8s => kernel_rfl
  case hQx8s => exact fun _ _ _ h => h
  case hwx8s => rfl
  case hyx8s =>
    intro W hW
    go_simp
    try with_reducible rfl
  simp only [Act.put, List.setIfInBounds_toArray, List.set_cons_succ, List.set_cons_zero]
  refine' wpAnyH_take (i := 9) ?h1x9s ?hsx9s ?hfx9s ?hrx9s ?hQx9s (Or.inl ⟨?hwx9s, ?hyx9s⟩) hS ?restx9s
  case h1x9s => (simp only [List.getElem?_toArray, List.getElem?_cons_succ, List.getElem?_cons_zero]; rfl)
  case hsx9s | hfx9s | hrx9s => kernel_rfl
  case hQx9s => exact fun _ _ _ h => h
  case hwx9s => rfl
  case hyx9s =>
    intro W hW
    go_simp
    try with_reducible rfl
  simp only [Act.put, List.setIfInBounds_toArray, List.set_cons_succ, List.set_cons_zero]
  refine' wpAnyH_take (i := 3) ?h1x3s ?hsx3s ?hfx3s ?hrx3s ?hQx3s (Or.inl ⟨?hwx3s, ?hyx3s⟩) hS ?restx3s
  case h1x3s => (simp only [List.getElem?_toArray, List.getElem?_cons_succ, List.getElem?_cons_zero]; rfl)
  case hsx3s | hfx3s | hrx3s => kernel_rfl
  case hQx3s => exact fun _ _ _ h => h
  case hwx3s => rfl
  case hyx3s =>
    intro W hW
    go_simp
    try with_reducible rfl
  simp only [Act.put, List.setIfInBounds_toArray, List.set_cons_succ, List.set_cons_zero]
  refine' wpAnyH_take (i := 10) ?h1x10s ?hsx10s ?hfx10s ?hrx10s ?hQx10s (Or.inl ⟨?hwx10s, ?hyx10s⟩) hS ?restx10s
  case h1x10s => (simp only [List.getElem?_toArray, List.getElem?_cons_succ, List.getElem?_cons_zero]; rfl)
  case hsx10s | hfx10s | hrx10s => kernel_rfl
  case hQx10s => exact fun _ _ _ h => h
  case hwx10s => rfl
  case hyx10s =>
    intro W hW
    go_simp
    try with_reducible rfl
  simp only [Act.put, List.setIfInBounds_toArray, List.set_cons_succ, List.set_cons_zero]
  refine' wpAnyH_take (i := 4) ?h1x4s ?hsx4s ?hfx4s ?hrx4s ?hQx4s (Or.inl ⟨?hwx4s, ?hyx4s⟩) hS ?restx4s
  case h1x4s => (simp only [List.getElem?_toArray, List.getElem?_cons_succ, List.getElem?_cons_zero]; rfl)
  case hsx4s | hfx4s | hrx4s => kernel_rfl
  case hQx4s => exact fun _ _ _ h => h
  case hwx4s => rfl
  case hyx4s =>
    intro W hW
    go_simp
    try with_reducible rfl
  simp only [Act.put, List.setIfInBounds_toArray, List.set_cons_succ, List.set_cons_zero]
  refine' wpAnyH_take (i := 11) ?h1x11s ?hsx11s ?hfx11s ?hrx11s ?hQx11s (Or.inl ⟨?hwx11s, ?hyx11s⟩) hS ?restx11s
  case h1x11s => (simp only [List.getElem?_toArray, List.getElem?_cons_succ, List.getElem?_cons_zero]; rfl)
  case hsx11s | hfx11s | hrx11s => kernel_rfl
  case hQx11s => exact fun _ _ _ h => h
  case hwx11s => rfl
  case hyx11s =>
    intro W hW
    go_simp
    try with_reducible rfl
  simp only [Act.put, List.setIfInBounds_toArray, List.set_cons_succ, List.set_cons_zero]
  refine' wpAnyH_take (i := 5) ?h1x5s ?hsx5s ?hfx5s ?hrx5s ?hQx5s (Or.inl ⟨?hwx5s, ?hyx5s⟩) hS ?restx5s
  case h1x5s => (simp only [List.getElem?_toArray, List.getElem?_cons_succ, List.getElem?_cons_zero]; rfl)
  case hsx5s | hfx5s | hrx5s => kernel_rfl
  case hQx5s => exact fun _ _ _ h => h
  case hwx5s => rfl
  case hyx5s =>
    intro W hW
    go_simp
    try with_reducible rfl
  simp only [Act.put, List.setIfInBounds_toArray, List.set_cons_succ, List.set_cons_zero]
  refine' wpAnyH_take (i := 12) ?h1x12s ?hsx12s ?hfx12s ?hrx12s ?hQx12s (Or.inl ⟨?hwx12s, ?hyx12s⟩) hS ?restx12s
  case h1x12s => (simp only [List.getElem?_toArray, List.getElem?_cons_succ, List.getElem?_cons_zero]; rfl)
  case hsx12s | hfx12s | hrx12s => kernel_rfl
  case hQx12s => exact fun _ _ _ h => h
  case hwx12s => rfl
  case hyx12s =>
    intro W hW
    go_simp
    try with_reducible rfl
  simp only [Act.put, List.setIfInBounds_toArray, List.set_cons_succ, List.set_cons_zero]
  refine wpAnyH_ready (rs := [13]) (by kernel_rfl) (by simp) ?_
  refine' (AllReadyH.cons ?hoc13s (fun K hK => ?stc13s) AllReadyH.nil)
  case hoc13s => (simp only [List.getElem?_toArray, List.getElem?_cons_succ, List.getElem?_cons_zero]; rfl)
  go_simp
  have hb := (Below.refl Wss.heap.size Wss).alloc (Nat.le_refl _) (.cells #[.slice x1 k1 c, .slice z zl zc, .slice x2 (n - k2) (c - k2)] 24)
  refine hK.out _ _ (hS.trans (hb.mono hS.size)) (fun hHeld => ?_)
  clear hK K
  try simp only [Act.put, List.setIfInBounds_toArray, List.set_cons_succ, List.set_cons_zero]
  have qRP := heap_alloc_new Wss (.cells #[.slice x1 k1 c, .slice z zl zc, .slice x2 (n - k2) (c - k2)] 24)
  have hgp := hS.size
  have qE1 := E1.out.below hb
  have qE2 := E2.out.below hb
  have qE3 := E3.out.below hb
  clear hS
  have hS := hHeld
  clear hHeld
  clear hb
  clear E1 E2 E3
  generalize Wss.alloc (.cells #[.slice x1 k1 c, .slice z zl zc, .slice x2 (n - k2) (c - k2)] 24) = Wsx13 at *
  generalize Wss.heap.size = gp at *
  have E1 := Lib.hid qE1
  have E2 := Lib.hid qE2
  have E3 := Lib.hid qE3
  have RP := Lib.hid qRP
  clear qE1 qE2 qE3 qRP
  refine wpAnyH_ready (rs := [14]) (by kernel_rfl) (by simp) ?_
  refine' (AllReadyH.cons ?hoc14sx13 (fun K hK => ?stc14sx13) AllReadyH.nil)
  case hoc14sx13 => (simp only [List.getElem?_toArray, List.getElem?_cons_succ, List.getElem?_cons_zero]; rfl)
  go_simp
  refine (CC.out Wsx13 _ RP.out E1.out E2.out E3.out).mono ?_
  rintro e Wsx13x14 ⟨v, rfl, hes, hcap, hfr, hb⟩
  have E1 := Lib.hid (E1.out.below hb)
  have E2 := Lib.hid (E2.out.below hb)
  have E3 := Lib.hid (E3.out.below hb)
  have RP := Lib.hid ((hb.block _ (blk_lt RP.out)).trans RP.out)
  have hfr := fresh_le hfr hS.size
  have RES := Lib.hid hes
  clear hes
  go_wp2_with fail
  refine hK.out _ _ (hS.trans (hb.mono hS.size)) (fun hHeld => ?_)
  clear hK K
  try simp only [Act.put, List.setIfInBounds_toArray, List.set_cons_succ, List.set_cons_zero]
  clear hS
  have hS := hHeld
  clear hHeld
  clear hb
  refine' wpAnyH_take (i := 15) ?h1x15sx13x14 ?hsx15sx13x14 ?hfx15sx13x14 ?hrx15sx13x14 ?hQx15sx13x14 (Or.inl ⟨?hwx15sx13x14, ?hyx15sx13x14⟩) hS ?restx15sx13x14
  case h1x15sx13x14 => (simp only [List.getElem?_toArray, List.getElem?_cons_succ, List.getElem?_cons_zero]; rfl)
  case hsx15sx13x14 | hfx15sx13x14 | hrx15sx13x14 => kernel_rfl
  case hQx15sx13x14 => exact fun _ _ _ h => h
  case hwx15sx13x14 => rfl
  case hyx15sx13x14 =>
    intro W hW
    go_simp
    try with_reducible rfl
  simp only [Act.put, List.setIfInBounds_toArray, List.set_cons_succ, List.set_cons_zero]
  refine wpAnyH_done (by kernel_rfl) ?_ _
  go_wp2_with fail
  go_ret
  exact ⟨v, rfl, RES.out, hcap, hfr, hS⟩
end Go.Proofs.Ytnifaldgofmciaa
