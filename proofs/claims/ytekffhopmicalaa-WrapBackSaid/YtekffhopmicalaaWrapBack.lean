/-
  For all keys and two texts of bytes the law WrapBack of package casematelaw07 returns true, and they read afterwards as before: what is wrapped is unwrapped as it was, and what unwraps is the wrap of what comes. Condition: none.
-/
import Derived.Test.YtekffhopmicalaaWrQ
namespace Go.Proofs.Ytekffhopmicalaa.wrapBack
open Go.ChangeShapes Go.WideShapes Go.ChangeAt Go.RowKit
theorem unw_take {key b : List Nat} {n : Nat} (h : (unw key b n).take 8 = fr8) : fr8 ++ (unw key b n).drop 8 = unw key b n := by
  rw [← h, List.take_append_drop]
theorem wrp_unw {key b : List Nat} (hk : Bts 32 key) {n : Nat} (h1 : 0 < n) (h2 : n ≤ 16) (hb : b.length = 8 * (n + 1)) (yb : Byt b) (h : (unw key b n).take 8 = fr8) : wrp key ((unw key b n).drop 8) n = b := by
  unfold wrp
  rw [unw_take h]
  exact tn_bt (fun x hx => dec_bts hk hx) (fun x hx => enc_dec hk hx) h1 (6 * n) (by omega) b hb yb
theorem unw_wrp' {key b : List Nat} (hk : Bts 32 key) {n : Nat} (h1 : 0 < n) (h2 : n ≤ 16) (hb : b.length = 8 * n) (yb : Byt b) : unw key (wrp key b n) n = fr8 ++ b :=
  bt_tn (fun x hx => enc_bts hk hx) (fun x hx => dec_enc hk hx) h1 (by rw [List.length_append, fr8_len, hb]; omega) (fr8_byt.append yb) (6 * n) (by omega)
set_option maxRecDepth 100000 in
set_option maxHeartbeats 4000000 in
theorem walkBig (key : List Nat) (x y : Option Addr) (L M c d : Nat) (w : World) (h : 200 < L ∨ 200 < M) : Calls Try.prog 15 #[.agg (ncells key), .slice x L c, .slice y M d] w fun e w' => e = .returned (.bool true) ∧ Below w.heap.size w w' := by
  have b0 : Below w.heap.size w (w.alloc (.cells (ncells key) 23)) := (Below.refl _ _).alloc (Nat.le_refl _) _
  have HB := Lib.hid b0
  clear b0
  by_cases hL : (200 : Int) < L
  · clear h
    go_enter Try.func15, Try.ntmps15
    go_wp2_with fail
    refine (alive7 _).mono ?_
    rintro e w1 ⟨rfl, hb⟩
    go_wp2_with fail
    go_ret
    exact ⟨rfl, HB.out.trans (hb.mono HB.out.size)⟩
  · have z : (200 : Int) < M := by omega
    clear h
    go_enter Try.func15, Try.ntmps15
    go_wp2_with fail
    refine (alive7 _).mono ?_
    rintro e w1 ⟨rfl, hb⟩
    go_wp2_with fail
    go_ret
    exact ⟨rfl, HB.out.trans (hb.mono HB.out.size)⟩
set_option maxRecDepth 100000 in
set_option maxHeartbeats 4000000 in
theorem walk_no_bad (key a b : List Nat) (hk : key.length = 32) (x y : Option Addr) (L M c d : Nat) (w : World) (hl : L ≤ 200) (hm : M ≤ 200) (sa : Sees w (.slice x L c) a) (sb : Sees w (.slice y M d) b)
    (WN : Hid (∀ W : World, Calls Try.prog 35 #[.agg (ncells key), .slice x L c] W fun e w' => e = .returned (.tuple #[.slice none 0 0, .int .i64 3]) ∧ Below W.heap.size W w'))
    (g : Int) (hg : (g != 0) = true) (UB : Hid (∀ W : World, Sees W (.slice y M d) b → Calls Try.prog 37 #[.agg (ncells key), .slice y M d] W fun e w' => e = .returned (.tuple #[.slice none 0 0, .int .i64 g]) ∧ Below W.heap.size W w')) : Calls Try.prog 15 #[.agg (ncells key), .slice x L c, .slice y M d] w fun e w' => e = .returned (.bool true) ∧ Below w.heap.size w w' := by
  have hL : ¬ (200 : Int) < L := by omega
  have hM : ¬ (200 : Int) < M := by omega
  obtain ⟨W0, hW0⟩ : ∃ W0, W0 = w.alloc (.cells (ncells key) 23) := ⟨_, rfl⟩
  have HB : Hid (Below w.heap.size w W0) := by rw [hW0]; exact (Below.refl _ _).alloc (Nat.le_refl _) _
  have G0 : Hid (W0.heap[w.heap.size]? = some (.cells (ncells key) 23 (0, 0))) := by show _ = _; rw [hW0]; exact heap_alloc_new w _
  have HW0 := Lib.hid hW0
  have HK := Lib.hid hk
  have SA := Lib.hid sa
  have SB := Lib.hid sb
  clear hW0 hk sa sb hl hm
  go_enter Try.func15, Try.ntmps15
  go_wp2_with (refine wpList_load_row rfl 23 (.tmp 3) rfl w.heap.size rfl 23 (ncells key) (0, 0) _ (by rw [← HW0.out]; exact G0.out) Try.underlying23 rfl (i23 HK.out) ?_)
  rw [← HW0.out]
  refine (WN.out _).mono ?_
  rintro e w1 ⟨rfl, hb⟩
  have G1 := Lib.hid ((hb.block _ (blk_lt G0.out)).trans G0.out)
  have B1 := Lib.hid (HB.out.trans (hb.mono HB.out.size))
  clear hb G0 HB
  go_wp2_with (refine wpList_load_row rfl 23 (.tmp 3) rfl w.heap.size rfl 23 (ncells key) (0, 0) _ G1.out Try.underlying23 rfl (i23 HK.out) ?_)
  refine (UB.out _ (SB.out.below B1.out)).mono ?_
  rintro e w2 ⟨rfl, hb⟩
  have G2 := Lib.hid ((hb.block _ (blk_lt G1.out)).trans G1.out)
  have B2 := Lib.hid (B1.out.trans (hb.mono B1.out.size))
  clear hb B1 G1
  have W0N := Lib.hid (wrapNo key none 0 0 w2 (by omega) rfl)
  go_wp2_with (refine wpList_load_row rfl 23 (.tmp 3) rfl w.heap.size rfl 23 (ncells key) (0, 0) _ G2.out Try.underlying23 rfl (i23 HK.out) ?_)
  refine (W0N.out).mono ?_
  rintro e w3 ⟨rfl, hb⟩
  have B3 := Lib.hid (B2.out.trans (hb.mono B2.out.size))
  clear hb B2 W0N
  go_wp2_with fail
  refine (alive7 _).mono ?_
  rintro e w4 ⟨rfl, hb⟩
  have B4 := Lib.hid (B3.out.trans (hb.mono B3.out.size))
  clear hb B3
  go_wp2_with fail
  go_ret
  exact ⟨rfl, B4.out⟩
set_option maxRecDepth 100000 in
set_option maxHeartbeats 4000000 in
theorem walk_no_ok (key a b : List Nat) (hk : key.length = 32) (x y : Option Addr) (L M c d : Nat) (w : World) (hl : L ≤ 200) (hm : M ≤ 200) (sa : Sees w (.slice x L c) a) (sb : Sees w (.slice y M d) b)
    (WN : Hid (∀ W : World, Calls Try.prog 35 #[.agg (ncells key), .slice x L c] W fun e w' => e = .returned (.tuple #[.slice none 0 0, .int .i64 3]) ∧ Below W.heap.size W w'))
    (P : List Nat) (M8 : Nat) (UO : Hid (∀ W : World, Sees W (.slice y M d) b → Calls Try.prog 37 #[.agg (ncells key), .slice y M d] W fun e w' => ∃ q c, e = .returned (.tuple #[.slice q M8 c, .int .i64 0]) ∧ Sees w' (.slice q M8 c) P ∧ Below W.heap.size W w'))
    (WO : Hid (∀ (W : World) (q : Option Addr) (c : Nat), Sees W (.slice q M8 c) P → Calls Try.prog 35 #[.agg (ncells key), .slice q M8 c] W fun e w' => ∃ q c, e = .returned (.tuple #[.slice q M c, .int .i64 0]) ∧ Sees w' (.slice q M c) b ∧ Below W.heap.size W w')) : Calls Try.prog 15 #[.agg (ncells key), .slice x L c, .slice y M d] w fun e w' => e = .returned (.bool true) ∧ Below w.heap.size w w' := by
  have hL : ¬ (200 : Int) < L := by omega
  have hM : ¬ (200 : Int) < M := by omega
  obtain ⟨W0, hW0⟩ : ∃ W0, W0 = w.alloc (.cells (ncells key) 23) := ⟨_, rfl⟩
  have HB : Hid (Below w.heap.size w W0) := by rw [hW0]; exact (Below.refl _ _).alloc (Nat.le_refl _) _
  have G0 : Hid (W0.heap[w.heap.size]? = some (.cells (ncells key) 23 (0, 0))) := by show _ = _; rw [hW0]; exact heap_alloc_new w _
  have HW0 := Lib.hid hW0
  have HK := Lib.hid hk
  have SA := Lib.hid sa
  have SB := Lib.hid sb
  clear hW0 hk sa sb hl hm
  go_enter Try.func15, Try.ntmps15
  go_wp2_with (refine wpList_load_row rfl 23 (.tmp 3) rfl w.heap.size rfl 23 (ncells key) (0, 0) _ (by rw [← HW0.out]; exact G0.out) Try.underlying23 rfl (i23 HK.out) ?_)
  rw [← HW0.out]
  refine (WN.out _).mono ?_
  rintro e w1 ⟨rfl, hb⟩
  have G1 := Lib.hid ((hb.block _ (blk_lt G0.out)).trans G0.out)
  have B1 := Lib.hid (HB.out.trans (hb.mono HB.out.size))
  clear hb G0 HB
  go_wp2_with (refine wpList_load_row rfl 23 (.tmp 3) rfl w.heap.size rfl 23 (ncells key) (0, 0) _ G1.out Try.underlying23 rfl (i23 HK.out) ?_)
  refine (UO.out _ (SB.out.below B1.out)).mono ?_
  rintro e w2 ⟨qp, cp, rfl, hs, hb⟩
  have P2 := Lib.hid hs
  have G2 := Lib.hid ((hb.block _ (blk_lt G1.out)).trans G1.out)
  have B2 := Lib.hid (B1.out.trans (hb.mono B1.out.size))
  clear hb B1 G1 hs
  go_wp2_with (refine wpList_load_row rfl 23 (.tmp 3) rfl w.heap.size rfl 23 (ncells key) (0, 0) _ G2.out Try.underlying23 rfl (i23 HK.out) ?_)
  refine (WO.out _ _ _ P2.out).mono ?_
  rintro e w3 ⟨qz, cz, rfl, hs, hb⟩
  have Z3 := Lib.hid hs
  have B3 := Lib.hid (B2.out.trans (hb.mono B2.out.size))
  clear hb B2 hs
  go_wp2_with fail
  refine (alive7 _).mono ?_
  rintro e w4 ⟨rfl, hb⟩
  have B4 := Lib.hid (B3.out.trans (hb.mono B3.out.size))
  have s1 := (Z3.out.below hb).str
  have s2 := (SB.out.below B4.out).str
  have sq : ((strN b).toList == (strN b).toList) = true := by simp
  clear hb B3
  go_wp2_with fail
  go_ret
  exact ⟨rfl, B4.out⟩
set_option maxRecDepth 100000 in
set_option maxHeartbeats 4000000 in
theorem walk_yes_bad (key a b : List Nat) (hk : key.length = 32) (x y : Option Addr) (L M c d : Nat) (w : World) (hl : L ≤ 200) (hm : M ≤ 200) (sa : Sees w (.slice x L c) a) (sb : Sees w (.slice y M d) b)
    (X : List Nat) (L8 : Nat) (hL8 : Hid (L8 = L + 8)) (WY : Hid (∀ W : World, Sees W (.slice x L c) a → Calls Try.prog 35 #[.agg (ncells key), .slice x L c] W fun e w' => ∃ q c, e = .returned (.tuple #[.slice q L8 c, .int .i64 0]) ∧ Sees w' (.slice q L8 c) X ∧ Below W.heap.size W w'))
    (UY : Hid (∀ (W : World) (q : Option Addr) (c : Nat), Sees W (.slice q L8 c) X → Calls Try.prog 37 #[.agg (ncells key), .slice q L8 c] W fun e w' => ∃ q c, e = .returned (.tuple #[.slice q L c, .int .i64 0]) ∧ Sees w' (.slice q L c) a ∧ Below W.heap.size W w'))
    (g : Int) (hg : (g != 0) = true) (UB : Hid (∀ W : World, Sees W (.slice y M d) b → Calls Try.prog 37 #[.agg (ncells key), .slice y M d] W fun e w' => e = .returned (.tuple #[.slice none 0 0, .int .i64 g]) ∧ Below W.heap.size W w')) : Calls Try.prog 15 #[.agg (ncells key), .slice x L c, .slice y M d] w fun e w' => e = .returned (.bool true) ∧ Below w.heap.size w w' := by
  have hL : ¬ (200 : Int) < L := by omega
  have hM : ¬ (200 : Int) < M := by omega
  obtain ⟨W0, hW0⟩ : ∃ W0, W0 = w.alloc (.cells (ncells key) 23) := ⟨_, rfl⟩
  have HB : Hid (Below w.heap.size w W0) := by rw [hW0]; exact (Below.refl _ _).alloc (Nat.le_refl _) _
  have G0 : Hid (W0.heap[w.heap.size]? = some (.cells (ncells key) 23 (0, 0))) := by show _ = _; rw [hW0]; exact heap_alloc_new w _
  have HW0 := Lib.hid hW0
  have HK := Lib.hid hk
  have SA := Lib.hid sa
  have SB := Lib.hid sb
  clear hW0 hk sa sb hl hm
  go_enter Try.func15, Try.ntmps15
  go_wp2_with (refine wpList_load_row rfl 23 (.tmp 3) rfl w.heap.size rfl 23 (ncells key) (0, 0) _ (by rw [← HW0.out]; exact G0.out) Try.underlying23 rfl (i23 HK.out) ?_)
  rw [← HW0.out]
  refine (WY.out _ (SA.out.below HB.out)).mono ?_
  rintro e w0 ⟨qx, cx, rfl, hs, hb⟩
  have X0 := Lib.hid hs
  have G10 := Lib.hid ((hb.block _ (blk_lt G0.out)).trans G0.out)
  have B10 := Lib.hid (HB.out.trans (hb.mono HB.out.size))
  clear hb G0 HB hs
  go_wp2_with (refine wpList_load_row rfl 23 (.tmp 3) rfl w.heap.size rfl 23 (ncells key) (0, 0) _ G10.out Try.underlying23 rfl (i23 HK.out) ?_)
  refine (UY.out _ _ _ X0.out).mono ?_
  rintro e w1 ⟨qy, cy, rfl, hs, hb⟩
  have G1 := Lib.hid ((hb.block _ (blk_lt G10.out)).trans G10.out)
  have B1 := Lib.hid (B10.out.trans (hb.mono B10.out.size))
  have s1 := hs.str
  have s2 := (SA.out.below B1.out).str
  have sq : ((strN a).toList == (strN a).toList) = true := by simp
  have z8 : (L : Int) + 8 = (L8 : Int) := by have := hL8.out; omega
  clear hb G10 B10 hs X0
  go_wp2_with (refine wpList_load_row rfl 23 (.tmp 3) rfl w.heap.size rfl 23 (ncells key) (0, 0) _ G1.out Try.underlying23 rfl (i23 HK.out) ?_)
  clear s1 s2 sq
  refine (UB.out _ (SB.out.below B1.out)).mono ?_
  rintro e w2 ⟨rfl, hb⟩
  have G2 := Lib.hid ((hb.block _ (blk_lt G1.out)).trans G1.out)
  have B2 := Lib.hid (B1.out.trans (hb.mono B1.out.size))
  clear hb B1 G1
  have W0N := Lib.hid (wrapNo key none 0 0 w2 (by omega) rfl)
  go_wp2_with (refine wpList_load_row rfl 23 (.tmp 3) rfl w.heap.size rfl 23 (ncells key) (0, 0) _ G2.out Try.underlying23 rfl (i23 HK.out) ?_)
  refine (W0N.out).mono ?_
  rintro e w3 ⟨rfl, hb⟩
  have B3 := Lib.hid (B2.out.trans (hb.mono B2.out.size))
  clear hb B2 W0N
  go_wp2_with fail
  refine (alive7 _).mono ?_
  rintro e w4 ⟨rfl, hb⟩
  have B4 := Lib.hid (B3.out.trans (hb.mono B3.out.size))
  clear hb B3
  go_wp2_with fail
  go_ret
  exact ⟨rfl, B4.out⟩
set_option maxRecDepth 100000 in
set_option maxHeartbeats 4000000 in
theorem walk_yes_ok (key a b : List Nat) (hk : key.length = 32) (x y : Option Addr) (L M c d : Nat) (w : World) (hl : L ≤ 200) (hm : M ≤ 200) (sa : Sees w (.slice x L c) a) (sb : Sees w (.slice y M d) b)
    (X : List Nat) (L8 : Nat) (hL8 : Hid (L8 = L + 8)) (WY : Hid (∀ W : World, Sees W (.slice x L c) a → Calls Try.prog 35 #[.agg (ncells key), .slice x L c] W fun e w' => ∃ q c, e = .returned (.tuple #[.slice q L8 c, .int .i64 0]) ∧ Sees w' (.slice q L8 c) X ∧ Below W.heap.size W w'))
    (UY : Hid (∀ (W : World) (q : Option Addr) (c : Nat), Sees W (.slice q L8 c) X → Calls Try.prog 37 #[.agg (ncells key), .slice q L8 c] W fun e w' => ∃ q c, e = .returned (.tuple #[.slice q L c, .int .i64 0]) ∧ Sees w' (.slice q L c) a ∧ Below W.heap.size W w'))
    (P : List Nat) (M8 : Nat) (UO : Hid (∀ W : World, Sees W (.slice y M d) b → Calls Try.prog 37 #[.agg (ncells key), .slice y M d] W fun e w' => ∃ q c, e = .returned (.tuple #[.slice q M8 c, .int .i64 0]) ∧ Sees w' (.slice q M8 c) P ∧ Below W.heap.size W w'))
    (WO : Hid (∀ (W : World) (q : Option Addr) (c : Nat), Sees W (.slice q M8 c) P → Calls Try.prog 35 #[.agg (ncells key), .slice q M8 c] W fun e w' => ∃ q c, e = .returned (.tuple #[.slice q M c, .int .i64 0]) ∧ Sees w' (.slice q M c) b ∧ Below W.heap.size W w')) : Calls Try.prog 15 #[.agg (ncells key), .slice x L c, .slice y M d] w fun e w' => e = .returned (.bool true) ∧ Below w.heap.size w w' := by
  have hL : ¬ (200 : Int) < L := by omega
  have hM : ¬ (200 : Int) < M := by omega
  obtain ⟨W0, hW0⟩ : ∃ W0, W0 = w.alloc (.cells (ncells key) 23) := ⟨_, rfl⟩
  have HB : Hid (Below w.heap.size w W0) := by rw [hW0]; exact (Below.refl _ _).alloc (Nat.le_refl _) _
  have G0 : Hid (W0.heap[w.heap.size]? = some (.cells (ncells key) 23 (0, 0))) := by show _ = _; rw [hW0]; exact heap_alloc_new w _
  have HW0 := Lib.hid hW0
  have HK := Lib.hid hk
  have SA := Lib.hid sa
  have SB := Lib.hid sb
  clear hW0 hk sa sb hl hm
  go_enter Try.func15, Try.ntmps15
  go_wp2_with (refine wpList_load_row rfl 23 (.tmp 3) rfl w.heap.size rfl 23 (ncells key) (0, 0) _ (by rw [← HW0.out]; exact G0.out) Try.underlying23 rfl (i23 HK.out) ?_)
  rw [← HW0.out]
  refine (WY.out _ (SA.out.below HB.out)).mono ?_
  rintro e w0 ⟨qx, cx, rfl, hs, hb⟩
  have X0 := Lib.hid hs
  have G10 := Lib.hid ((hb.block _ (blk_lt G0.out)).trans G0.out)
  have B10 := Lib.hid (HB.out.trans (hb.mono HB.out.size))
  clear hb G0 HB hs
  go_wp2_with (refine wpList_load_row rfl 23 (.tmp 3) rfl w.heap.size rfl 23 (ncells key) (0, 0) _ G10.out Try.underlying23 rfl (i23 HK.out) ?_)
  refine (UY.out _ _ _ X0.out).mono ?_
  rintro e w1 ⟨qy, cy, rfl, hs, hb⟩
  have G1 := Lib.hid ((hb.block _ (blk_lt G10.out)).trans G10.out)
  have B1 := Lib.hid (B10.out.trans (hb.mono B10.out.size))
  have s1 := hs.str
  have s2 := (SA.out.below B1.out).str
  have sq : ((strN a).toList == (strN a).toList) = true := by simp
  have z8 : (L : Int) + 8 = (L8 : Int) := by have := hL8.out; omega
  clear hb G10 B10 hs X0
  go_wp2_with (refine wpList_load_row rfl 23 (.tmp 3) rfl w.heap.size rfl 23 (ncells key) (0, 0) _ G1.out Try.underlying23 rfl (i23 HK.out) ?_)
  clear s1 s2 sq
  refine (UO.out _ (SB.out.below B1.out)).mono ?_
  rintro e w2 ⟨qp, cp, rfl, hs, hb⟩
  have P2 := Lib.hid hs
  have G2 := Lib.hid ((hb.block _ (blk_lt G1.out)).trans G1.out)
  have B2 := Lib.hid (B1.out.trans (hb.mono B1.out.size))
  clear hb B1 G1 hs
  go_wp2_with (refine wpList_load_row rfl 23 (.tmp 3) rfl w.heap.size rfl 23 (ncells key) (0, 0) _ G2.out Try.underlying23 rfl (i23 HK.out) ?_)
  refine (WO.out _ _ _ P2.out).mono ?_
  rintro e w3 ⟨qz, cz, rfl, hs, hb⟩
  have Z3 := Lib.hid hs
  have B3 := Lib.hid (B2.out.trans (hb.mono B2.out.size))
  clear hb B2 hs
  go_wp2_with fail
  refine (alive7 _).mono ?_
  rintro e w4 ⟨rfl, hb⟩
  have B4 := Lib.hid (B3.out.trans (hb.mono B3.out.size))
  have s1 := (Z3.out.below hb).str
  have s2 := (SB.out.below B4.out).str
  have sq : ((strN b).toList == (strN b).toList) = true := by simp
  clear hb B3
  go_wp2_with fail
  go_ret
  exact ⟨rfl, B4.out⟩
theorem isW_true {n : Nat} (h : isW (n : Int) = true) : 16 ≤ n ∧ n ≤ 128 ∧ n % 8 = 0 := by
  unfold isW at h
  simp at h
  omega
theorem unw_len {key b : List Nat} (hk : Bts 32 key) {n : Nat} (h1 : 0 < n) (h2 : n ≤ 16) (hb : b.length = 8 * (n + 1)) (yb : Byt b) : (unw key b n).length = 8 * (n + 1) ∧ Byt (unw key b n) :=
  bt_ok (fun x hx => dec_bts hk hx) h1 (6 * n) (by omega) b hb yb
theorem wrp_len' {key b : List Nat} (hk : Bts 32 key) {n : Nat} (h1 : 0 < n) (h2 : n ≤ 16) (hb : b.length = 8 * n) (yb : Byt b) : (wrp key b n).length = 8 * (n + 1) :=
  (tn_ok (fun x hx => enc_bts hk hx) h1 (by rw [List.length_append, fr8_len, hb]; omega) (fr8_byt.append yb) (6 * n) (by omega)).1
theorem walk (key a b : List Nat) (v u : Value) (hk : Bts 32 key) (w : World) (sa : Sees w v a) (sb : Sees w u b) : Calls Try.prog 15 #[.agg (ncells key), v, u] w fun e w' => e = .returned (.bool true) ∧ Below w.heap.size w w' := by
  obtain ⟨x, c, rfl, _⟩ := sa.form
  obtain ⟨y, d, rfl, _⟩ := sb.form
  by_cases hbig : 200 < a.length ∨ 200 < b.length
  · exact walkBig key x y _ _ c d w hbig
  have hl : a.length ≤ 200 := by omega
  have hm : b.length ≤ 200 := by omega
  have ya := sa.1
  have yb := sb.1
  have second : (∃ g : Int, (g != 0) = true ∧ Hid (∀ W : World, Sees W (.slice y b.length d) b → Calls Try.prog 37 #[.agg (ncells key), .slice y b.length d] W fun e w' => e = .returned (.tuple #[.slice none 0 0, .int .i64 g]) ∧ Below W.heap.size W w')) ∨
      (∃ (P : List Nat) (M8 : Nat), Hid (∀ W : World, Sees W (.slice y b.length d) b → Calls Try.prog 37 #[.agg (ncells key), .slice y b.length d] W fun e w' => ∃ q c, e = .returned (.tuple #[.slice q M8 c, .int .i64 0]) ∧ Sees w' (.slice q M8 c) P ∧ Below W.heap.size W w') ∧
        Hid (∀ (W : World) (q : Option Addr) (c : Nat), Sees W (.slice q M8 c) P → Calls Try.prog 35 #[.agg (ncells key), .slice q M8 c] W fun e w' => ∃ q c, e = .returned (.tuple #[.slice q b.length c, .int .i64 0]) ∧ Sees w' (.slice q b.length c) b ∧ Below W.heap.size W w')) := by
    cases hi : isW ((b.length : Int) - 8) with
    | false => exact .inl ⟨3, by decide, fun W _ => unwrapNo key y b.length d W (by omega) hi⟩
    | true =>
      have h3 : 24 ≤ b.length ∧ b.length ≤ 136 ∧ b.length % 8 = 0 := by
        unfold isW at hi
        simp at hi
        omega
      obtain ⟨n, hn⟩ : ∃ n, b.length = 8 * (n + 1) := ⟨b.length / 8 - 1, by omega⟩
      have ul := unw_len hk (show 0 < n by omega) (by omega) hn yb
      by_cases hf : (unw key b n).take 8 = fr8
      · refine .inr ⟨(unw key b n).drop 8, b.length - 8, fun W hs => ?_, fun W q c hs => ?_⟩
        · refine (unwrapYes key b hk n y b.length d W hs rfl hn (by omega) (by omega)).mono ?_
          rintro e w' ⟨hb, ⟨_, q, c, rfl, h⟩ | ⟨h, _⟩⟩
          · exact ⟨q, c, rfl, h, hb⟩
          · exact (h hf).elim
        · have h := wrapYes key ((unw key b n).drop 8) hk n q (b.length - 8) c W hs (by rw [List.length_drop, ul.1]; omega) (by omega) (by omega) (by omega)
          rw [wrp_unw hk (by omega) (by omega) hn yb hf, show b.length - 8 + 8 = b.length by omega] at h
          exact h
      · refine .inl ⟨20, by decide, fun W hs => ?_⟩
        refine (unwrapYes key b hk n y b.length d W hs rfl hn (by omega) (by omega)).mono ?_
        rintro e w' ⟨hb, ⟨h, _⟩ | ⟨_, h⟩⟩
        · exact (hf h).elim
        · exact ⟨h, hb⟩
  cases hi : isW (a.length : Int) with
  | false =>
    have WN : Hid (∀ W : World, Calls Try.prog 35 #[.agg (ncells key), .slice x a.length c] W fun e w' => e = .returned (.tuple #[.slice none 0 0, .int .i64 3]) ∧ Below W.heap.size W w') := fun W => wrapNo key x a.length c W (by omega) hi
    rcases second with ⟨g, hg, UB⟩ | ⟨P, M8, UO, WO⟩
    · exact walk_no_bad key a b hk.1 x y _ _ c d w hl hm sa sb WN g hg UB
    · exact walk_no_ok key a b hk.1 x y _ _ c d w hl hm sa sb WN P M8 UO WO
  | true =>
    have h3 := isW_true hi
    obtain ⟨n, hn⟩ : ∃ n, a.length = 8 * n := ⟨a.length / 8, by omega⟩
    have WY : Hid (∀ W : World, Sees W (.slice x a.length c) a → Calls Try.prog 35 #[.agg (ncells key), .slice x a.length c] W fun e w' => ∃ q c, e = .returned (.tuple #[.slice q (a.length + 8) c, .int .i64 0]) ∧ Sees w' (.slice q (a.length + 8) c) (wrp key a n) ∧ Below W.heap.size W w') :=
      fun W hs => wrapYes key a hk n x a.length c W hs rfl hn (by omega) (by omega)
    have UY : Hid (∀ (W : World) (q : Option Addr) (c : Nat), Sees W (.slice q (a.length + 8) c) (wrp key a n) → Calls Try.prog 37 #[.agg (ncells key), .slice q (a.length + 8) c] W fun e w' => ∃ q c, e = .returned (.tuple #[.slice q a.length c, .int .i64 0]) ∧ Sees w' (.slice q a.length c) a ∧ Below W.heap.size W w') := fun W q c hs => by
      refine (unwrapYes key (wrp key a n) hk n q (a.length + 8) c W hs (by rw [wrp_len' hk (by omega) (by omega) hn ya]; omega) (by omega) (by omega) (by omega)).mono ?_
      rw [unw_wrp' hk (by omega) (by omega) hn ya, show a.length + 8 - 8 = a.length by omega]
      rintro e w' ⟨hb, ⟨_, q, c, rfl, h⟩ | ⟨h, _⟩⟩
      · exact ⟨q, c, rfl, h, hb⟩
      · exact (h rfl).elim
    rcases second with ⟨g, hg, UB⟩ | ⟨P, M8, UO, WO⟩
    · exact walk_yes_bad key a b hk.1 x y _ _ c d w hl hm sa sb _ _ rfl WY UY g hg UB
    · exact walk_yes_ok key a b hk.1 x y _ _ c d w hl hm sa sb _ _ rfl WY UY P M8 UO WO

set_option maxRecDepth 100000 in
theorem lifted (os : Os) (started : os.Started) (H : Type) (enc : TypeId × Value → H) :
    ReturnsInHanded {} Try.checked os 15 .any (Rows.wrapBackSpec.pre6 enc Try.prog Try.f15 Rows.wrapBackRow.domain false) (Rows.wrapBackSpec.post enc Try.prog Try.f15 false true false false) := by
  refine returnsInHanded_of_change (C := Try.checked) own started (by kernel_rfl) Try.func15
    (ChangeSpec.witness6 (enc := enc) (C := Try.checked) false ⟨#[], #[.agg (Array.replicate 32 (.int .u8 0)), .slice none 0 0, .slice none 0 0], []⟩ 8 (by kernel_rfl) (by kernel_rfl) (by kernel_rfl) (by kernel_rfl)) ?_
  intro W base args ds gs before hval0 hW hcnd _
  have hval : ∀ (j : Nat) t v, Try.f15.params[j]? = some t → args[j]? = some v → Value.okWide Try.prog W .any base t v := hval0
  have hW' := hW
  obtain ⟨p, q, hA0, hV, rfl, hfz, hnd⟩ := hW
  have hA : DataW.TrodAll enc Try.prog W 0 (fun _ => true) true Try.f15.params.toList args.toList ds p := hA0
  rw [Try.params15] at hA hval
  obtain ⟨v0, vs0, d0, ds0, p0, q0, hargs, rfl, rfl, h0, r0⟩ := trodAll_cons hA
  obtain ⟨v1, vs1, d1, ds1, p1, q1, rfl, rfl, rfl, h1, r1⟩ := trodAll_cons r0
  obtain ⟨v2, vs2, d2, ds2, p2, q2, rfl, rfl, rfl, h2, r2⟩ := trodAll_cons r1
  obtain ⟨rfl, rfl, rfl⟩ := trodAll_nil r2
  obtain rfl : args = #[v0, v1, v2] := by cases args; simp_all
  obtain ⟨rfl, rfl⟩ := trodVars_none hV
  obtain ⟨x0, b0, rfl⟩ := open_arr u23 cellsOf23 (hval 0 23 v0 rfl rfl) h0
  obtain ⟨x1, s1⟩ := open_sees (hval 1 28 v1 rfl rfl) h1
  obtain ⟨x2, s2⟩ := open_sees (hval 2 28 v2 rfl rfl) h2
  refine (walk x0 x1 x2 v1 v2 b0 W s1 s2).mono fun e W' ⟨he, hb⟩ => ?_
  subst he
  exact ⟨_, rfl, law_post hW' rfl rfl rfl (by kernel_rfl) hb⟩

/-- The statement. -/
theorem proved : Rows.WrapBackSaid :=
  OpenClaim.holds_of_wide 15 Try.f15 rfl rfl rfl rfl rfl rfl rfl ⟨rfl, rfl, rfl, rfl, rfl⟩ rfl rfl rfl rfl rfl (by kernel_rfl) Try.func15 (by kernel_rfl)
    (of_decide_eq_true (by kernel_rfl)) (by unfold Func.isWrapper; first | (rw [if_pos (by decide +kernel)]; kernel_rfl) | (rw [if_neg (by decide +kernel)]; exact ⟨rfl, rfl⟩))
    (fun os started H enc _ => lifted os started H enc)
#print axioms proved
end Go.Proofs.Ytekffhopmicalaa.wrapBack
