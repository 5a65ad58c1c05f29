/-
  Contracts of the functions that the statements of package aes go through: a new cipher, its words, and ciphers that are nil or zero. Condition: the numbers are bytes.
-/
import Derived.Test.YtpkeofioobmmoaaGreatDoorAeAesU
namespace Go.Proofs.YtpkeofioobmmoaaGreatDoor.ae
open Go.RowKit
theorem brow_bxs : brow 256 = bxs := by decide +kernel
/-- The cells of a cipher: words, boxes, and back. -/
def CI (F : List Nat) : List Nat := F ++ bxs ++ kxs
theorem kxs_len : kxs.length = 256 := krow_len 256
theorem bxs_len : bxs.length = 256 := tab_len _ _
theorem CI_len {F : List Nat} (h : F.length = 240) : (CI F).length = 752 := by unfold CI; rw [List.length_append, List.length_append, h, bxs_len, kxs_len]
theorem app_l {a b : List Nat} {i : Nat} (h : i < a.length) : at_ (a ++ b) i = at_ a i := by simp [at_, List.getD, List.getElem?_append_left h]
theorem app_r {a b : List Nat} (n i : Nat) (h : a.length = n) : at_ (a ++ b) (n + i) = at_ b i := by simp [at_, List.getD, List.getElem?_append_right (show a.length ≤ n + i by omega), h]
theorem CI_w {F : List Nat} (h : F.length = 240) (j : Nat) (hj : j < 240) : at_ (CI F) j = at_ F j := by
  unfold CI; rw [app_l (by rw [List.length_append, h]; omega), app_l (by omega)]
theorem CI_b {F : List Nat} (h : F.length = 240) (j : Nat) (hj : j < 256) : at_ (CI F) (240 + j) = at_ bxs j := by
  unfold CI; rw [app_l (by rw [List.length_append, h, bxs_len]; omega), app_r 240 j h]
theorem CI_k {F : List Nat} (h : F.length = 240) (j : Nat) : at_ (CI F) (496 + j) = at_ kxs j := by
  unfold CI; exact app_r 496 j (by rw [List.length_append, h, bxs_len])
/-- A cipher of a key lies in block g. -/
def CIat (W : World) (g : Nat) (F : List Nat) : Prop := W.heap[g]? = some (.cells (ncells (CI F)) 85 (0, 0))
theorem CIat.below {W W' : World} {g : Nat} {F : List Nat} (h : CIat W g F) (hb : Below W.heap.size W W') : CIat W' g F := (hb.block _ (blk_lt h)).trans h
theorem CIat.w {W : World} {g : Nat} {F : List Nat} (h : CIat W g F) (hF : F.length = 240) : ∀ j, j < 240 → W.cell? ⟨g, j, none⟩ = some (.int .u8 (at_ F j : Nat)) := fun j hj => by
  rw [cell_at h (CI_len hF) (show j < 752 by omega), CI_w hF j hj]
theorem CIat.b {W : World} {g : Nat} {F : List Nat} (h : CIat W g F) (hF : F.length = 240) : ∀ j, j < 256 → W.cell? ⟨g, 240 + j, none⟩ = some (.int .u8 (at_ bxs j : Nat)) := fun j hj => by
  rw [cell_at h (CI_len hF) (show 240 + j < 752 by omega), CI_b hF j hj]
theorem CIat.k {W : World} {g : Nat} {F : List Nat} (h : CIat W g F) (hF : F.length = 240) : ∀ j, j < 256 → W.cell? ⟨g, 496 + j, none⟩ = some (.int .u8 (at_ kxs j : Nat)) := fun j hj => by
  rw [cell_at h (CI_len hF) (show 496 + j < 752 by omega), CI_k hF j]
/-- A row laid into the middle of one. -/
theorem mid (A X Y B : List Nat) (n m : Nat) (hA : A.length = n) (hX : X.length = m) (hY : Y.length = m) : ((ncells (A ++ X ++ B)).toList.take n ++ (ncells Y).toList ++ (ncells (A ++ X ++ B)).toList.drop (n + (ncells Y).size)).toArray = ncells (A ++ Y ++ B) := by
  rw [nsize, hY]
  unfold ncells
  congr 1
  rw [← List.map_take, ← List.map_drop, ← List.map_append, ← List.map_append]
  congr 1
  rw [List.append_assoc A X B, show List.take n (A ++ (X ++ B)) = A by rw [← hA]; exact List.take_left, show n + m = A.length + X.length by rw [hA, hX], List.drop_length_add_append, List.drop_left]
theorem zeros_add (a b : Nat) : zeros a ++ zeros b = zeros (a + b) := List.replicate_append_replicate
theorem build41 : ∀ w, (Instr.build 85 #[]).run Tryz.prog w = .ok (.agg (ncells (zeros 752))) w := fun _ => by kernel_rfl
theorem info23 : (Tryz.prog.info? 23).map (·.size) = some 32 := by kernel_rfl
theorem i23 {b : List Nat} (h : b.length = 32) : (Tryz.prog.info? 23).map (·.size) = some (ncells b).size := by rw [info23, nsize, h]
theorem i39 {b : List Nat} (h : b.length = 256) : (Tryz.prog.info? 83).map (·.size) = some (ncells b).size := by rw [info27, nsize, h]
/-- A pointer to a new cipher. -/
def NewP (w : World) (F : List Nat) (e : Ending) (w' : World) : Prop := ∃ g, e = .returned (.pointer (some ⟨g, 0, none⟩)) ∧ w.heap.size ≤ g ∧ CIat w' g F ∧ Below w.heap.size w w'
set_option maxRecDepth 100000 in
set_option maxHeartbeats 4000000 in
theorem newC (key : List Nat) (hk : Bts 32 key) (w : World) : Calls Tryz.prog 29 #[.agg (ncells key)] w (NewP w (flat key)) := by
  have hZ : Tryz.zeroCells85 = ncells (zeros 752) := by kernel_rfl
  have BX := boxes
  rw [brow_bxs, show krow 256 = kxs from rfl] at BX
  have HBX := Lib.hid BX
  have HK := Lib.hid hk
  have HFL : Hid ((flat key).length = 240) := tab_len _ _
  have M1 : Hid ((Tryz.zeroCells85.toList.take 240 ++ (ncells bxs).toList ++ Tryz.zeroCells85.toList.drop (240 + (ncells bxs).size)).toArray = ncells (zeros 240 ++ bxs ++ zeros 256)) := by
    show _ = _
    rw [hZ, show zeros 752 = zeros 240 ++ zeros 256 ++ zeros 256 by rw [zeros_add, zeros_add]]
    exact mid _ _ _ _ 240 256 (zeros_len 240) (zeros_len 256) bxs_len
  have M2 : Hid (((ncells (zeros 240 ++ bxs ++ zeros 256)).toList.take 496 ++ (ncells kxs).toList ++ (ncells (zeros 240 ++ bxs ++ zeros 256)).toList.drop (496 + (ncells kxs).size)).toArray = ncells (zeros 240 ++ bxs ++ kxs)) := by
    show _ = _
    have := mid (zeros 240 ++ bxs) (zeros 256) kxs [] 496 256 (by rw [List.length_append, zeros_len, bxs_len]) (zeros_len 256) kxs_len
    rw [List.append_nil, List.append_nil] at this
    exact this
  have M3 : Hid (((ncells (zeros 240 ++ bxs ++ kxs)).toList.take 0 ++ (ncells (flat key)).toList ++ (ncells (zeros 240 ++ bxs ++ kxs)).toList.drop (0 + (ncells (flat key)).size)).toArray = ncells (CI (flat key))) := by
    show _ = _
    have := mid [] (zeros 240) (flat key) (bxs ++ kxs) 0 240 rfl (zeros_len 240) HFL.out
    rw [List.nil_append, List.nil_append, ← List.append_assoc, ← List.append_assoc] at this
    exact this
  have F1 : Hid (240 + (ncells bxs).size ≤ Tryz.zeroCells85.size) := by show _ ≤ _; rw [hZ, nsize, nsize, bxs_len, zeros_len]; omega
  have F2 : Hid (496 + (ncells kxs).size ≤ (ncells (zeros 240 ++ bxs ++ zeros 256)).size) := by show _ ≤ _; rw [nsize, nsize, List.length_append, List.length_append, kxs_len, bxs_len, zeros_len, zeros_len]; omega
  have F3 : Hid (0 + (ncells (flat key)).size ≤ (ncells (zeros 240 ++ bxs ++ kxs)).size) := by show _ ≤ _; rw [nsize, nsize, HFL.out, List.length_append, List.length_append, kxs_len, bxs_len, zeros_len]; omega
  have IB := Lib.hid (i39 bxs_len)
  have IK := Lib.hid (i39 kxs_len)
  have OB := Lib.hid (ones bxs)
  have OK := Lib.hid (ones kxs)
  have OF := Lib.hid (ones (flat key))
  have IF := Lib.hid (i30 HFL.out)
  have IKEY := Lib.hid (i23 hk.1)
  have WO : Hid (∀ (g : Nat) (W : World) , (∀ j, j < 256 → W.cell? ⟨g, 240 + j, none⟩ = some (.int .u8 (at_ bxs j : Nat))) → Calls Tryz.prog 48 #[.agg (ncells key), .pointer (some ⟨g, 240, none⟩)] W fun e w' => e = .returned (.agg (ncells (flat key))) ∧ Below W.heap.size W w') := fun g W h => wordsOf key hk g 240 W h
  have CB : Hid (∀ (W : World) (g : Nat), W.heap[g]? = some (.cells (ncells (zeros 240 ++ bxs ++ kxs)) 85 (0, 0)) → ∀ j, j < 256 → W.cell? ⟨g, 240 + j, none⟩ = some (.int .u8 (at_ bxs j : Nat))) := fun W g h j hj => CIat.b (F := zeros 240) h (zeros_len 240) j hj
  generalize hC3 : ncells (CI (flat key)) = C3 at *
  generalize hC2 : ncells (zeros 240 ++ bxs ++ kxs) = C2 at *
  generalize hC1 : ncells (zeros 240 ++ bxs ++ zeros 256) = C1 at *
  have HC3 := Lib.hid hC3
  clear hC1 hC2 hC3 hZ hk BX
  generalize hB : ncells bxs = BB at *
  generalize hKB : ncells kxs = KB at *
  clear hB hKB
  go_enter Tryz.func29, Tryz.ntmps29
  go_wp2_with fail
  refine (HBX.out _).mono ?_
  rintro e w1 ⟨rfl, hb⟩
  have B1 : Hid (Below w.heap.size w w1) := ((((Below.refl w.heap.size w).alloc (Nat.le_refl _) (.cells (ncells key) 23)).alloc (by simp) (.cells Tryz.zeroCells85 85)).trans (hb.mono (show w.heap.size ≤ ((w.alloc (.cells (ncells key) 23)).alloc (.cells Tryz.zeroCells85 85)).heap.size by simp <;> omega)))
  have K0 : Hid (w1.heap[w.heap.size]? = some (.cells (ncells key) 23 (0, 0))) := by
    show _ = _
    rw [hb.block _ (by simp <;> omega), Below.heap_alloc _ _ _ (by simp)]; exact heap_alloc_new w _
  have K1 : Hid (w1.heap[w.heap.size + 1]? = some (.cells Tryz.zeroCells85 85 (0, 0))) := by
    show _ = _
    rw [hb.block _ (by simp <;> omega)]; exact heap_alloc2_new w _ _
  have K2 : Hid ((w1.setRow (w.heap.size + 1) C1).heap[w.heap.size + 1]? = some (.cells C1 85 (0, 0))) := setRow_heap _ _ _ _ _ _ K1.out
  have K3 : Hid (((w1.setRow (w.heap.size + 1) C1).setRow (w.heap.size + 1) C2).heap[w.heap.size + 1]? = some (.cells C2 85 (0, 0))) := setRow_heap _ _ _ _ _ _ K2.out
  have K4 : Hid (((w1.setRow (w.heap.size + 1) C1).setRow (w.heap.size + 1) C2).heap[w.heap.size]? = some (.cells (ncells key) 23 (0, 0))) := by
    show _ = _
    rw [setRow_other _ _ _ _ (by omega), setRow_other _ _ _ _ (by omega)]; exact K0.out
  have B3 : Hid (Below w.heap.size w ((w1.setRow (w.heap.size + 1) C1).setRow (w.heap.size + 1) C2)) := (B1.out.trans (below_row _ _ (by omega))).trans (below_row _ _ (by omega))
  clear hb B1 K0 HBX
  go_wp2_with (first
    | (refine wpList_store_at rfl 83 (.tmp 13) (.tmp 10) rfl (w.heap.size + 1) 240 BB rfl rfl 85 Tryz.zeroCells85 C1 K1.out IB.out F1.out OB.out M1.out ?_)
    | (refine wpList_store_at rfl 83 (.tmp 15) (.tmp 11) rfl (w.heap.size + 1) 496 KB rfl rfl 85 C1 C2 K2.out IK.out F2.out OK.out M2.out ?_))
  generalize (w1.setRow (w.heap.size + 1) C1).setRow (w.heap.size + 1) C2 = w3 at *
  clear K1 K2
  refine wp_region_any (by kernel_rfl) ?_
  change wpAny _ _ _ _ _ _ _ (World.drew _)
  refine' wpAny_take (i := 0) ?h1x0p ?hsx0p ?hfx0p ?hrx0p ?hQx0p (Or.inl ⟨?hwx0p, ?hyx0p⟩) ?restx0p
  case h1x0p => (simp only [List.getElem?_toArray, List.getElem?_cons_zero]; rfl)
  case hsx0p | hfx0p | hrx0p => kernel_rfl
  case hQx0p => exact fun _ _ _ h => h
  case hwx0p => rfl
  case hyx0p =>
    intro W
    go_simp
    try with_reducible rfl
  simp only [Act.put, List.setIfInBounds_toArray, List.set_cons_succ, List.set_cons_zero]
  refine' wpAny_take (i := 2) ?h1x2p ?hsx2p ?hfx2p ?hrx2p ?hQx2p (Or.inl ⟨?hwx2p, ?hyx2p⟩) ?restx2p
  case h1x2p => (simp only [List.getElem?_toArray, List.getElem?_cons_succ, List.getElem?_cons_zero]; rfl)
  case hsx2p | hfx2p | hrx2p => kernel_rfl
  case hQx2p => exact fun _ _ _ h => h
  case hwx2p => rfl
  case hyx2p =>
    intro W
    go_simp
    try with_reducible rfl
  simp only [Act.put, List.setIfInBounds_toArray, List.set_cons_succ, List.set_cons_zero]
  refine' wpAny_take (i := 3) ?h1x3p ?hsx3p ?hfx3p ?hrx3p ?hQx3p (Or.inl ⟨?hwx3p, ?hyx3p⟩) ?restx3p
  case h1x3p => (simp only [List.getElem?_toArray, List.getElem?_cons_succ, List.getElem?_cons_zero]; rfl)
  case hsx3p | hfx3p | hrx3p => kernel_rfl
  case hQx3p => exact fun _ _ _ h => h
  case hwx3p => rfl
  case hyx3p =>
    intro W
    go_simp
    try with_reducible rfl
  simp only [Act.put, List.setIfInBounds_toArray, List.set_cons_succ, List.set_cons_zero]
  refine' wpAny_take (i := 4) ?h1x4p ?hsx4p ?hfx4p ?hrx4p ?hQx4p (Or.inl ⟨?hwx4p, ?hyx4p⟩) ?restx4p
  case h1x4p => (simp only [List.getElem?_toArray, List.getElem?_cons_succ, List.getElem?_cons_zero]; rfl)
  case hsx4p | hfx4p | hrx4p => kernel_rfl
  case hQx4p => exact fun _ _ _ h => h
  case hwx4p => rfl
  case hyx4p =>
    intro W
    go_simp
    try with_reducible rfl
  simp only [Act.put, List.setIfInBounds_toArray, List.set_cons_succ, List.set_cons_zero]
  refine wpAny_ready (rs := [1]) (by kernel_rfl) (by simp) ?_
  refine' AllReady.cons ?hoc1p (fun K hK => ?stc1p) AllReady.nil
  case hoc1p => (simp only [List.getElem?_toArray, List.getElem?_cons_succ, List.getElem?_cons_zero]; rfl)
  rw [if_pos (by rfl)]
  refine wp_load_row 23 (.tmp 1) rfl w.heap.size rfl 23 _ (0, 0) _ K4.out Tryz.underlying23 rfl IKEY.out ?_
  refine hK _ _ ?_
  clear hK K
  try simp only [Act.put, List.setIfInBounds_toArray, List.set_cons_succ, List.set_cons_zero]
  refine wpAny_ready (rs := [5]) (by kernel_rfl) (by simp) ?_
  refine' AllReady.cons ?hoc5p (fun K hK => ?stc5p) AllReady.nil
  case hoc5p => (simp only [List.getElem?_toArray, List.getElem?_cons_succ, List.getElem?_cons_zero]; rfl)
  go_simp
  refine (WO.out _ _ (CB.out w3.drew _ K3.out)).mono ?_
  rintro e w4 ⟨rfl, hb⟩
  have K5 : Hid (w4.heap[w.heap.size + 1]? = some (.cells C2 85 (0, 0))) := (hb.block _ (blk_lt (show w3.drew.heap[w.heap.size + 1]? = _ from K3.out))).trans K3.out
  have B5 := Lib.hid (B3.out.drew.trans (hb.mono B3.out.drew.size))
  clear hb
  go_wp2_with fail
  try refine hK _ _ ?_
  try clear hK K
  try simp only [Act.put, List.setIfInBounds_toArray, List.set_cons_succ, List.set_cons_zero]
  refine' wpAny_take (i := 6) ?h1x6p ?hsx6p ?hfx6p ?hrx6p ?hQx6p (Or.inl ⟨?hwx6p, ?hyx6p⟩) ?restx6p
  case h1x6p => (simp only [List.getElem?_toArray, List.getElem?_cons_succ, List.getElem?_cons_zero]; rfl)
  case hsx6p | hfx6p | hrx6p => kernel_rfl
  case hQx6p => exact fun _ _ _ h => h
  case hwx6p => rfl
  case hyx6p =>
    intro W
    go_simp
    try with_reducible rfl
  simp only [Act.put, List.setIfInBounds_toArray, List.set_cons_succ, List.set_cons_zero]
  refine' wpAny_take (i := 7) ?h1x7p ?hsx7p ?hfx7p ?hrx7p ?hQx7p (Or.inl ⟨?hwx7p, ?hyx7p⟩) ?restx7p
  case h1x7p => (simp only [List.getElem?_toArray, List.getElem?_cons_succ, List.getElem?_cons_zero]; rfl)
  case hsx7p | hfx7p | hrx7p => kernel_rfl
  case hQx7p => exact fun _ _ _ h => h
  case hwx7p => rfl
  case hyx7p =>
    intro W
    go_simp
    try with_reducible rfl
  simp only [Act.put, List.setIfInBounds_toArray, List.set_cons_succ, List.set_cons_zero]
  refine wpAny_ready (rs := [8]) (by kernel_rfl) (by simp) ?_
  refine' AllReady.cons ?hoc8p (fun K hK => ?stc8p) AllReady.nil
  case hoc8p => (simp only [List.getElem?_toArray, List.getElem?_cons_succ, List.getElem?_cons_zero]; rfl)
  rw [if_pos (by rfl)]
  refine wp_store_at 82 (.tmp 23) (.tmp 21) rfl (w.heap.size + 1) 0 (ncells (flat key)) rfl rfl 85 C2 C3 K5.out IF.out F3.out OF.out M3.out ?_
  refine hK _ _ ?_
  clear hK K
  try simp only [Act.put]
  refine wpAny_done (by kernel_rfl) ?_ _
  have K6 : Hid (CIat (w4.setRow (w.heap.size + 1) C3) (w.heap.size + 1) (flat key)) := by unfold CIat; rw [HC3.out]; exact setRow_heap _ _ _ _ _ _ K5.out
  have B6 : Hid (Below w.heap.size w (w4.setRow (w.heap.size + 1) C3)) := B5.out.trans (below_row _ _ (by omega))
  go_wp2_with fail
  go_ret
  exact ⟨_, rfl, by omega, K6.out, B6.out⟩
end Go.Proofs.YtpkeofioobmmoaaGreatDoor.ae
