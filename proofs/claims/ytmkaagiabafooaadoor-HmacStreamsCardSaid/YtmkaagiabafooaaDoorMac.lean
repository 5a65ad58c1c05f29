/-
  Contracts of the functions that the statements of package hmac go through: are bytes the same? Mac, Right, Extract. Condition: key and texts read as bytes, fewer than 2^49.
-/
import Derived.Test.YtmkaagiabafooaaDoorMark
namespace Go.Proofs.YtmkaagiabafooaaDoor
open Go.RowKit
theorem same_len (x y : Option Addr) (l m c d : Nat) (h : ¬ l = m) (w : World) :
    Calls Tryd.prog 39 #[.slice x l c, .slice y m d] w fun e w' => e = .returned (.bool false) ∧ w = w' := by
  go_enter Tryd.func39, Tryd.ntmps39
  go_wp2
  go_ret
  exact ⟨rfl, rfl⟩
theorem same_plain (b o cap b2 o2 cap2 : Nat) (xs ys : List Int) (hx : Byt xs) (hy : Byt ys) (hl : ys.length = xs.length) (hm : xs.length ≤ 9223372036854775807) (w : World)
    (hc : ∀ i, i < xs.length → w.cell? ⟨b, o + i, none⟩ = some (.int .u8 (nth xs i))) (hd : ∀ i, i < xs.length → w.cell? ⟨b2, o2 + i, none⟩ = some (.int .u8 (nth ys i))) :
    Calls Tryd.prog 39 #[.slice (some ⟨b, o, none⟩) xs.length cap, .slice (some ⟨b2, o2, none⟩) xs.length cap2] w fun e w' => e = .returned (.bool (decide (xs = ys))) ∧ w = w' := by
  go_enter Tryd.func39, Tryd.ntmps39
  go_wp2
  go_loop [5, 15] (fun u i => ∃ (k : Nat) (z : Int), k ≤ xs.length ∧ i = .int .i64 k ∧ u = .int .u8 z ∧ 0 ≤ z ∧ z ≤ 255 ∧ (z = 0 ↔ xs.take k = ys.take k)) (fun _ i => xs.length - (intOf i).toNat)
  case atStart => exact ⟨0, 0, by omega, rfl, rfl, by omega, by omega, by simp⟩
  case round =>
    obtain ⟨k, z, hk, rfl, rfl, h0, h1, hz⟩ := hrel
    have HZ := Lib.hid hz
    clear hz
    by_cases hlt : k < xs.length
    · have c1 := hc k hlt
      have c2 := hd k hlt
      have g1 := hx.nth k
      have g2 := hy.nth k
      have T1 := Lib.hid (take_snoc xs k hlt)
      have T2 := Lib.hid (take_snoc ys k (by omega))
      have X := Lib.hid (xor8_zero (nth xs k) (nth ys k) g1 g2)
      have O := Lib.hid (or8_zero z (bits .xor .u8 (nth xs k) (nth ys k)) ⟨h0, h1⟩ X.out.2)
      have p1 := g1.1
      have p2 := g1.2
      have p3 := g2.1
      have p4 := g2.2
      clear hc hd g1 g2
      go_wp2
      go_round
      case rel =>
        refine ⟨k + 1, _, by omega, by go_num, rfl, O.out.2.1, O.out.2.2, ?_⟩
        rw [O.out.1, X.out.1, HZ.out, T1.out, T2.out]
        constructor
        · rintro ⟨e1, e2⟩
          rw [e1, e2]
        · intro e
          have := List.append_inj e (by simp; omega)
          exact ⟨this.1, by simpa using this.2⟩
      case measure => simp [intOf]; omega
    · obtain rfl : k = xs.length := by omega
      have e1 : xs.take xs.length = xs := List.take_length
      have e2 : ys.take xs.length = ys := by rw [← hl]; exact List.take_length
      have HE : Hid ((z == 0) = decide (xs = ys)) := by
        show (z == 0) = decide (xs = ys)
        have := HZ.out
        rw [e1, e2] at this
        rw [Bool.eq_iff_iff]
        simp [this]
      clear hc hd e1 e2
      go_wp2
      go_ret
      refine ⟨?_, rfl⟩
      rw [← HE.out]
      rfl
theorem same_zero (x y : Option Addr) (c d : Nat) (w : World) : Calls Tryd.prog 39 #[.slice x 0 c, .slice y 0 d] w fun e w' => e = .returned (.bool true) ∧ w = w' := by
  go_enter Tryd.func39, Tryd.ntmps39
  go_wp2
  go_loop [5, 15] (fun u i => u = .int .u8 0 ∧ i = .int .i64 0) (fun _ _ => 0)
  case atStart => exact ⟨rfl, rfl⟩
  case round =>
    obtain ⟨rfl, rfl⟩ := hrel
    go_wp2
    go_ret
    exact ⟨rfl, rfl⟩
theorem same (v u : Value) (xs ys : List Int) (w : World) (h : Sees w v xs) (k : Sees w u ys) : Calls Tryd.prog 39 #[v, u] w fun e w' => e = .returned (.bool (decide (xs = ys))) ∧ w = w' := by
  by_cases hl : xs.length = ys.length
  · by_cases h0 : xs = []
    · subst h0
      obtain rfl := List.length_eq_zero_iff.1 hl.symm
      obtain ⟨x, c, rfl, _⟩ := h.form
      obtain ⟨y, d, rfl, _⟩ := k.form
      exact same_zero x y c d w
    · have h1 : ys ≠ [] := fun e => h0 (List.length_eq_zero_iff.1 (by rw [hl, e]; rfl))
      obtain ⟨hb, ⟨_, h2⟩ | ⟨_, _, _, h2, _⟩ | ⟨b, o, cap, rfl, _, _, hm, hc⟩⟩ := h
      · exact (h0 h2).elim
      · exact (h0 h2).elim
      obtain ⟨hb2, ⟨_, h2⟩ | ⟨_, _, _, h2, _⟩ | ⟨b2, o2, cap2, rfl, _, _, _, hd⟩⟩ := k
      · exact (h1 h2).elim
      · exact (h1 h2).elim
      rw [← hl] at hd ⊢
      unfold maxLen at hm
      exact same_plain b o cap b2 o2 cap2 xs ys hb hb2 hl.symm (by omega) w hc hd
  · obtain ⟨x, c, rfl, _⟩ := h.form
    obtain ⟨y, d, rfl, _⟩ := k.form
    rw [show decide (xs = ys) = false from decide_eq_false (fun e => hl (by rw [e]))]
    exact same_len x y _ _ c d hl w

/-- Two texts are the same just where their bytes are. -/
theorem str_eq (xs ys : List Int) (hx : Byt xs) (hy : Byt ys) : ((strOfNums xs).toList == (strOfNums ys).toList) = decide (xs = ys) := by
  rw [strOfNums_toList, strOfNums_toList]
  by_cases e : xs = ys
  · subst e; simp
  · have : tob xs ≠ tob ys := fun h => e (tob_inj hx hy h)
    simp [e, this]

theorem lit1 (w : World) (v : Value) (xs : List Int) (h : Sees w v xs) : LitL (w.alloc (.cells #[v] 22)) w.heap.size [v] [xs] :=
  ⟨heap_alloc_new w _, rfl, fun i hi => by
    obtain rfl : i = 0 := by simpa using hi
    exact h.below ((Below.refl _ _).alloc (Nat.le_refl _) _)⟩
/-- A row of 32 bytes, sliced. -/
theorem Row27.sees {w : World} {g : Nat} {xs : List Int} (h : Row27 w g xs) (hl : xs.length = 32) (hb : Byt xs) : Sees w (.slice (some ⟨g, 0, none⟩) 32 32) xs := by
  refine ⟨hb, .inr (.inr ⟨_, _, _, by rw [hl], by intro e; rw [e] at hl; simp at hl, by rw [hl]; omega, by decide, fun i hi => ?_⟩)⟩
  rw [Nat.zero_add]; exact h.cell i hi
set_option maxRecDepth 100000 in
set_option maxHeartbeats 1000000 in
theorem macc (vk vb : Value) (k b : List Int) (w : World) (hk : Sees w vk k) (hb : Sees w vb b) (lk : k.length ≤ 562949953421312) (lb : b.length ≤ 562949953421312) (hG : Glob w) :
    Calls Tryd.prog 22 #[vk, vb] w fun e w' => e = .returned (.agg (bcells (mac k b))) ∧ Below w.heap.size w w' := by
  obtain ⟨x1, c1, rfl, _⟩ := id hk.form
  obtain ⟨x2, c2, rfl, _⟩ := id hb.form
  have z27 := zv27
  obtain ⟨Z27, hZ27⟩ : ∃ Z, Z = bcells (List.replicate 32 0) := ⟨_, rfl⟩
  rw [← hZ27] at z27
  have h2 : 2 ≤ w.heap.size := by have := hG.lt; omega
  have hB0 : Below w.heap.size w (w.alloc (.cells Z27 27)) := (Below.refl _ _).alloc (Nat.le_refl _) _
  have hB1 : Below w.heap.size w ((w.alloc (.cells Z27 27)).alloc (.cells #[.slice x2 b.length c2] 22)) := hB0.alloc hB0.size _
  have lM : (mac k b).length = 32 := mac_len k b hk.1
  have MK := Lib.hid (mark _ k (w.heap.size + 1) 1 [.slice x2 b.length c2] [b] ((w.alloc (.cells Z27 27)).alloc (.cells #[.slice x2 b.length c2] 22)) (hk.below hB1) lk (by
    have := lit1 (w.alloc (.cells Z27 27)) _ b (hb.below hB0)
    simpa using this) (by simp) (by simpa using lb) (hG.below hB1 h2))
  rw [show [b].flatten = b by simp] at MK
  have IM := Lib.hid (show (Tryd.prog.info? 27).map (·.size) = some (bcells (mac k b)).size by rw [i27, bsize, lM])
  have ZM := Lib.hid (show Z27.size = (bcells (mac k b)).size by rw [hZ27, bsize, bsize, lM, List.length_replicate])
  have OM := Lib.hid (bone (mac k b))
  have HB1 := Lib.hid hB1
  have K1 := Lib.hid (show ((w.alloc (.cells Z27 27)).alloc (.cells #[.slice x2 b.length c2] 22)).heap[w.heap.size]? = some (.cells Z27 27 (0, 0)) by rw [Below.heap_alloc _ _ _ (by simp)]; exact heap_alloc_new w _)
  clear hZ27 h2 hB0 hB1 lM hk hb hG
  go_enter Tryd.func22, Tryd.ntmps22
  go_wp2_with fail
  refine MK.out.mono ?_
  rintro e w1 ⟨rfl, hb⟩
  have k2 : w1.heap[w.heap.size]? = some (.cells Z27 27 (0, 0)) := by rw [hb.block _ (blk_lt K1.out)]; exact K1.out
  have HB2 : Hid (Below w.heap.size w w1) := HB1.out.trans (hb.mono HB1.out.size)
  clear hb
  go_wp2_with (refine wpList_store_row rfl 27 _ _ rfl w.heap.size (bcells (mac k b)) rfl rfl 27 Z27 k2 IM.out ZM.out OM.out ?_)
  refine bodyPost_ret (v := .agg (bcells (mac k b))) (results_cell_row Tryd.results22 _ _ w.heap.size 27 _ (0, 0) _ rfl (setRow_heap _ _ _ _ _ _ k2) Tryd.underlying27 rfl IM.out) rfl ⟨rfl, ?_⟩
  exact HB2.out.trans (below_row _ _ (Nat.le_refl _))
set_option maxRecDepth 100000 in
set_option maxHeartbeats 1000000 in
theorem right (vk vb vm : Value) (k b m : List Int) (w : World) (hk : Sees w vk k) (hb : Sees w vb b) (hm : Sees w vm m) (lk : k.length ≤ 562949953421312) (lb : b.length ≤ 562949953421312) (hG : Glob w) :
    Calls Tryd.prog 25 #[vk, vb, vm] w fun e w' => e = .returned (.bool (decide (mac k b = m))) ∧ Below w.heap.size w w' := by
  obtain ⟨x1, c1, rfl, _⟩ := id hk.form
  obtain ⟨x2, c2, rfl, _⟩ := id hb.form
  obtain ⟨x3, c3, rfl, _⟩ := id hm.form
  have z27 := zv27
  obtain ⟨Z27, hZ27⟩ : ∃ Z, Z = bcells (List.replicate 32 0) := ⟨_, rfl⟩
  rw [← hZ27] at z27
  have h2 : 2 ≤ w.heap.size := by have := hG.lt; omega
  have hB1 : Below w.heap.size w (w.alloc (.cells #[.slice x2 b.length c2] 22)) := (Below.refl _ _).alloc (Nat.le_refl _) _
  have lM : (mac k b).length = 32 := mac_len k b hk.1
  have MK := Lib.hid (mark _ k w.heap.size 1 [.slice x2 b.length c2] [b] (w.alloc (.cells #[.slice x2 b.length c2] 22)) (hk.below hB1) lk (lit1 w _ b hb) (by simp) (by simpa using lb) (hG.below hB1 h2))
  rw [show [b].flatten = b by simp] at MK
  have IM := Lib.hid (show (Tryd.prog.info? 27).map (·.size) = some (bcells (mac k b)).size by rw [i27, bsize, lM])
  have ZM := Lib.hid (show Z27.size = (bcells (mac k b)).size by rw [hZ27, bsize, bsize, lM, List.length_replicate])
  have OM := Lib.hid (bone (mac k b))
  have HB1 := Lib.hid hB1
  have LM := Lib.hid lM
  have HM := Lib.hid hm
  have hsl2 := arr32_all
  clear hZ27 h2 hB1 lM hk hb hG hm
  go_enter Tryd.func25, Tryd.ntmps25
  go_wp2_with fail
  refine MK.out.mono ?_
  rintro e w1 ⟨rfl, hb⟩
  have b1 : Below w.heap.size w w1 := HB1.out.trans (hb.mono HB1.out.size)
  have b2 : Below w.heap.size w ((w1.alloc (.cells Z27 27)).setRow w1.heap.size (bcells (mac k b))) := (b1.alloc b1.size _).trans (below_row _ _ b1.size)
  have r2 : Row27 ((w1.alloc (.cells Z27 27)).setRow w1.heap.size (bcells (mac k b))) w1.heap.size (mac k b) := setRow_heap _ _ _ _ _ _ (heap_alloc_new w1 _)
  have SA := Lib.hid (same _ _ _ _ _ (r2.sees LM.out (mac_byt k b)) (HM.out.below b2))
  have B2 := Lib.hid b2
  clear hb b1 b2 r2
  go_wp2_with (refine wpList_store_row rfl 27 _ _ rfl w1.heap.size (bcells (mac k b)) rfl rfl 27 Z27 (heap_alloc_new w1 _) IM.out ZM.out OM.out ?_)
  refine SA.out.mono ?_
  rintro e w' ⟨rfl, rfl⟩
  go_wp2_with fail
  go_ret
  exact ⟨rfl, B2.out⟩
end Go.Proofs.YtmkaagiabafooaaDoor
