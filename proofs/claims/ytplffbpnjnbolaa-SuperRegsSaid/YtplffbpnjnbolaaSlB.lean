/-
  Contracts of the functions that the statements of package slot go through: the slot that bytes are. Condition: the slice reads as bytes.
-/
import Derived.Test.YtplffbpnjnbolaaSlA
import Derived.Test.YtplffbpnjnbolaaI
namespace Go.Proofs.Ytplffbpnjnbolaa
open Go.RowKit
theorem results_cell_tmp {P : Program} {fn : Func} {p q : Tmp} {ty : TypeId} (h : fn.results = #[.cell p ty, .tmp q]) (tmps : Array Value) (w : World) (g : Nat) (t : TypeId) (cs : Array Value) (fr : Nat × Nat) (d : TypeDesc)
    (hp : tmps.getD p undef = .pointer (some ⟨g, 0, none⟩)) (hg : w.heap[g]? = some (.cells cs t fr))
    (hu : P.underlying ty = some d) (hd : (match d with | .struct _ | .array _ _ => true | _ => false) = true) (hi : (P.info? ty).map (·.size) = some cs.size) :
    (results fn tmps).run P w = .ok (.tuple #[.agg cs, tmps.getD q undef]) w := by
  have hp' : tmps[p]?.getD undef = .pointer (some ⟨g, 0, none⟩) := by simpa using hp
  simp [results, h, hp', asAddr, run_loadVar_row w g t ty cs fr d hg hu hd hi]
set_option maxRecDepth 100000 in
theorem b61 (w : World) : (Instr.build 61 #[]).run Try.prog w = .ok (.agg (bcells (zs 104))) w := by kernel_rfl
theorem i61 {xs : List Int} (h : xs.length = 104) : (Try.prog.info? 61).map (·.size) = some (bcells xs).size := by
  rw [bcells_size, h]; kernel_rfl
theorem one_cells (xs : List Int) : (bcells xs).all (·.oneCell') = true := by simp [bcells, Value.oneCell']
theorem bcells_sz {xs ys : List Int} (h : xs.length = ys.length) : (bcells xs).size = (bcells ys).size := by rw [bcells_size, bcells_size, h]
/-- What Read tells: the slot, the error. -/
def sR (xs : List Int) : List Int := (xs.drop 8).take 104
def sRe (xs : List Int) : Int := if xs.length = 512 ∧ sW (sR xs) = xs then 0 else 3
def sRv (xs : List Int) : List Int := if sRe xs = 0 then sR xs else zs 104
theorem sR_len {xs : List Int} (h : xs.length = 512) : (sR xs).length = 104 := by simp [sR, h]
theorem sR_byt {xs : List Int} (h : Byt xs) : Byt (sR xs) := (h.drop _).take _
theorem sRv_len (xs : List Int) : (sRv xs).length = 104 := by
  unfold sRv
  by_cases h : xs.length = 512 ∧ sW (sR xs) = xs
  · rw [if_pos (by unfold sRe; rw [if_pos h])]; exact sR_len h.1
  · rw [if_neg (by unfold sRe; rw [if_neg h]; decide)]; exact zs_len _
theorem sRv_byt {xs : List Int} (h : Byt xs) : Byt (sRv xs) := by
  unfold sRv
  split
  · exact sR_byt h
  · exact zs_byt _
def ReadSP (w : World) (xs : List Int) (e : Ending) (w' : World) : Prop :=
  e = .returned (.tuple #[.agg (bcells (sRv xs)), .int .i64 (sRe xs)]) ∧ Below w.heap.size w w'
set_option maxRecDepth 100000 in
set_option maxHeartbeats 4000000 in
theorem slotR_other (v : Value) (xs : List Int) (hl : xs.length ≠ 512) (w : World) (h : Sees w v xs) : Calls Try.prog 24 #[v] w (ReadSP w xs) := by
  obtain ⟨x, cap, rfl, h63⟩ := h.form
  have e1 : sRe xs = 3 := by unfold sRe; rw [if_neg (fun h => hl h.1)]
  have e2 : sRv xs = zs 104 := by unfold sRv; rw [if_neg (by rw [e1]; decide)]
  have E : Hid (ReadSP w xs = fun e w' => e = .returned (.tuple #[.agg (bcells (zs 104)), .int .i64 3]) ∧ Below w.heap.size w w') := by show _ = _; unfold ReadSP; rw [e1, e2]
  rw [E.out]
  have hz := z104
  have hb := b61
  have hne : (xs.length : Int) ≠ 512 := by omega
  have I := Lib.hid (i61 (zs_len 104))
  have O := Lib.hid (one_cells (zs 104))
  have G := Lib.hid (heap_alloc_new w (.cells (bcells (zs 104)) 61))
  have R := Lib.hid (alloc_setRowT w (bcells (zs 104)) (bcells (zs 104)) 61 _ rfl)
  have BE : Hid (Below w.heap.size w (w.alloc (.cells (bcells (zs 104)) 61))) := (Below.refl _ _).alloc (Nat.le_refl _) _
  generalize bcells (zs 104) = Z at *
  clear h hl e1 e2 E
  go_enter Try.func24, Try.ntmps24
  go_wp2_with (refine wpList_store_row rfl 61 (.tmp 2) (.tmp 8) rfl w.heap.size Z rfl rfl 61 Z G.out I.out rfl O.out ?_; rw [R.out])
  exact bodyPost_ret (v := .tuple #[.agg Z, .int .i64 3]) (results_cell_tmp Try.results24 _ _ w.heap.size 61 Z (0, 0) _ rfl G.out Try.underlying61 rfl I.out) rfl ⟨rfl, BE.out⟩
/-- The cells of a part of a slice. -/
theorem part_sees (W : World) (b o : Nat) (xs : List Int) (hc : ∀ i, i < xs.length → W.cell? ⟨b, o + i, none⟩ = some (.int .u8 (nth xs i))) (p n : Nat) (ho : p + n ≤ xs.length) (j : Nat) (hj : j < ((xs.drop p).take n).length) :
    W.cell? ((⟨b, o + p, none⟩ : Addr).add j) = some (.int .u8 (nth ((xs.drop p).take n) j)) := by
  have hplain : (⟨b, o + p, none⟩ : Addr).add j = ⟨b, o + p + j, none⟩ := by unfold Addr.add; split <;> simp_all
  have hjn : j < n := by simp at hj; omega
  have hlt : p + j < xs.length := by omega
  rw [hplain, Nat.add_assoc, hc _ hlt]
  simp [nth, List.getD, List.getElem?_take_of_lt hjn, List.getElem?_drop]
theorem sR_parts (xs : List Int) (hl : xs.length = 512) : sR xs = (xs.drop 8).take 32 ++ (xs.drop 40).take 32 ++ (xs.drop 72).take 40 := by
  obtain ⟨p1, p2, p3, h, _, _, _, e1, e2, e3⟩ := part3 (sR xs) (sR_len hl)
  rw [h, ← e1, ← e2, ← e3]
  simp [sR, List.drop_take, List.take_take]
set_option maxRecDepth 100000 in
set_option maxHeartbeats 4000000 in
theorem slotR_full (v : Value) (xs : List Int) (hl : xs.length = 512) (w : World) (h : Sees w v xs) : Calls Try.prog 24 #[v] w (ReadSP w xs) := by
  have SE := Lib.hid h
  obtain ⟨hby, ⟨rfl, rfl⟩ | ⟨a, cap, rfl, rfl, _⟩ | ⟨b, o, cap, rfl, h3, h4, h5, h6⟩⟩ := id h
  · simp at hl
  · simp at hl
  have hz := z104
  have hb := b61
  unfold maxLen at h5
  have SE : Hid (Sees w (.slice (some ⟨b, o, none⟩) 512 cap) xs) := by show Sees _ _ _; rw [← hl]; exact h
  rw [hl]
  have hca : 512 ≤ cap := by omega
  obtain ⟨W1, hW1⟩ : ∃ W1, W1 = w.alloc (.cells (bcells (zs 104)) 61) := ⟨_, rfl⟩
  have hs1 : W1.heap.size = w.heap.size + 1 := by rw [hW1]; simp
  have hB1 : Below w.heap.size w W1 := by rw [hW1]; exact (Below.refl _ _).alloc (Nat.le_refl _) _
  have hcc : ∀ U : World, Below w.heap.size w U → ∀ i, i < xs.length → U.cell? ⟨b, o + i, none⟩ = some (.int .u8 (nth xs i)) := fun U hU i hi => by
    rw [hU.cell (World.block_lt_of_cell? w _ (h6 i hi))]; exact h6 i hi
  have hU : ∀ ob, Below w.heap.size w (W1.alloc ob) := fun ob => hB1.alloc hB1.size ob
  have p1 := part_len xs 8 32 (by omega)
  have p2 := part_len xs 40 32 (by omega)
  have p3 := part_len xs 72 40 (by omega)
  have c1 := cpy W1.drew 61 (zs 104) ((xs.drop 8).take 32) (w.heap.size + 1) 0 32 32 ⟨b, o + 8, none⟩ 504 (cap - 8) hs1 (by rw [p1]; decide) (fun j hj => part_sees _ b o xs (hcc _ (hU _)) 8 32 (by omega) j hj) (by rw [p1, zs_len]; omega)
  rw [p1] at c1
  obtain ⟨L1, hL1⟩ : ∃ L : List Int, L = (zs 104).take 0 ++ (xs.drop 8).take 32 ++ (zs 104).drop (0 + 32) := ⟨_, rfl⟩
  rw [← hL1] at c1
  have l1 : L1.length = 104 := by rw [hL1]; simp [zs_len, hl]
  have c2 := cpy W1.drew.drew 61 L1 ((xs.drop 40).take 32) (w.heap.size + 1) 32 32 32 ⟨b, o + 40, none⟩ 472 (cap - 40) hs1 (by rw [p2]; decide) (fun j hj => part_sees _ b o xs (hcc _ (hU _)) 40 32 (by omega) j hj) (by rw [p2, l1]; omega)
  rw [p2] at c2
  obtain ⟨L2, hL2⟩ : ∃ L : List Int, L = L1.take 32 ++ (xs.drop 40).take 32 ++ L1.drop (32 + 32) := ⟨_, rfl⟩
  rw [← hL2] at c2
  have l2 : L2.length = 104 := by rw [hL2]; simp [l1, hl]
  have c3 := cpy W1.drew.drew.drew 61 L2 ((xs.drop 72).take 40) (w.heap.size + 1) 64 40 40 ⟨b, o + 72, none⟩ 440 (cap - 72) hs1 (by rw [p3]; decide) (fun j hj => part_sees _ b o xs (hcc _ (hU _)) 72 40 (by omega) j hj) (by rw [p3, l2]; omega)
  rw [p3] at c3
  have hS : L2.take 64 ++ (xs.drop 72).take 40 ++ L2.drop (64 + 40) = sR xs := by
    have s0 : zs 104 = [] ++ (zs 32 ++ zs 72) := by rw [zs_add]; rfl
    have s1 : L1 = ([] ++ (xs.drop 8).take 32) ++ (zs 32 ++ zs 40) := by rw [hL1, s0, put_at _ _ _ _ 0 32 rfl (zs_len _) p1, zs_add]
    have s2 : L2 = ([] ++ (xs.drop 8).take 32 ++ (xs.drop 40).take 32) ++ (zs 40 ++ []) := by rw [hL2, s1, put_at _ _ _ _ 32 32 (by simp [p1]) (zs_len _) p2, List.append_nil]
    rw [s2, put_at _ _ _ _ 64 40 (by simp [p1, p2]) (zs_len _) p3, sR_parts xs hl]
    simp
  rw [hS] at c3
  have C1 : Hid ((Builtin.copy_ #[30, 30] 3 #[.slice (some ⟨w.heap.size + 1, 0, none⟩) 32 32, .slice (some ⟨b, o + 8, none⟩) 504 (cap - 8)]).run Try.prog (W1.alloc (.cells (bcells (zs 104)) 61)).drew = .ok (.int .i64 32) (W1.alloc (.cells (bcells L1) 61)).drew) := c1
  have C2 : Hid ((Builtin.copy_ #[30, 30] 3 #[.slice (some ⟨w.heap.size + 1, 32, none⟩) 32 32, .slice (some ⟨b, o + 40, none⟩) 472 (cap - 40)]).run Try.prog (W1.alloc (.cells (bcells L1) 61)).drew.drew = .ok (.int .i64 32) (W1.alloc (.cells (bcells L2) 61)).drew.drew) := c2
  have C3 : Hid ((Builtin.copy_ #[30, 30] 3 #[.slice (some ⟨w.heap.size + 1, 64, none⟩) 40 40, .slice (some ⟨b, o + 72, none⟩) 440 (cap - 72)]).run Try.prog (W1.alloc (.cells (bcells L2) 61)).drew.drew.drew = .ok (.int .i64 40) (W1.alloc (.cells (bcells (sR xs)) 61)).drew.drew.drew) := c3
  clear c1 c2 c3
  have BB : Hid (Below w.heap.size w (W1.alloc (.cells (bcells (sR xs)) 61)).drew.drew.drew) := (hU _).drew.drew.drew
  have GR : Hid ((W1.alloc (.cells (bcells (sR xs)) 61)).drew.drew.drew.heap[w.heap.size]? = some (.cells (bcells (zs 104)) 61 (0, 0))) := by
    show (W1.alloc _).heap[_]? = _
    rw [Below.heap_alloc _ _ _ (by omega), hW1]; exact heap_alloc_new w _
  have GS : Hid ((W1.alloc (.cells (bcells (sR xs)) 61)).drew.drew.drew.heap[w.heap.size + 1]? = some (.cells (bcells (sR xs)) 61 (0, 0))) := by
    show (W1.alloc _).heap[_]? = _
    rw [← hs1]; exact heap_alloc_new W1 _
  have IS := Lib.hid (i61 (sR_len hl))
  have IZ := Lib.hid (i61 (zs_len 104))
  have OS := Lib.hid (one_cells (sR xs))
  have OZ := Lib.hid (one_cells (zs 104))
  have ZS := Lib.hid (bcells_sz (show (zs 104).length = (sR xs).length by rw [zs_len, sR_len hl]))
  have WR : Hid (∀ W : World, Calls Try.prog 26 #[.agg (bcells (sR xs))] W (NewP W 512 (sW (sR xs)))) := fun W => slotW _ (sR_byt hby) (sR_len hl) W
  have E : Hid (∀ W, ReadSP W xs = fun e w' => e = .returned (.tuple #[.agg (bcells (if sW (sR xs) = xs then sR xs else zs 104)), .int .i64 (if sW (sR xs) = xs then 0 else 3)]) ∧ Below W.heap.size W w') := fun W => by
    unfold ReadSP sRv sRe
    by_cases hq : sW (sR xs) = xs
    · simp [hq, hl]
    · simp [hq]
  rw [E.out]
  obtain ⟨q, hq⟩ : ∃ q : Bool, decide (sW (sR xs) = xs) = q := ⟨_, rfl⟩
  have HQ := Lib.hid hq
  have hif : ∀ {α : Type} (x y : α), (if sW (sR xs) = xs then x else y) = if q = true then x else y := fun x y => by rw [← hq]; simp
  rw [hif, hif]
  have hz' : (zeroValue 61).run Try.prog w = .ok (.agg (bcells (zs 104))) w := hz w
  generalize sW (sR xs) = S at *
  have ite1 : ∀ (c : Bool), bcells (if c = true then sR xs else zs 104) = if c = true then bcells (sR xs) else bcells (zs 104) := fun c => by cases c <;> rfl
  rw [ite1]
  generalize bcells (sR xs) = CS at *
  generalize bcells L2 = CL2 at *
  generalize bcells L1 = CL1 at *
  generalize bcells (zs 104) = Z at *
  rw [hW1] at C1 C2 C3 BB GR GS
  generalize ((w.alloc (.cells Z 61)).alloc (.cells CS 61)).drew.drew.drew = V3 at *
  generalize ((w.alloc (.cells Z 61)).alloc (.cells CL2 61)).drew.drew = V2 at *
  generalize ((w.alloc (.cells Z 61)).alloc (.cells CL1 61)).drew = V1 at *
  clear hS l1 l2 p1 p2 p3 hL1 hL2 h hl hif ite1 hcc hU hB1 hs1 hW1 W1 E h3 h4 h6 hby hq
  have hc8 : ¬ (cap = 8) := by omega
  have hc40 : ¬ (cap = 40) := by omega
  have hc72 : ¬ (cap = 72) := by omega
  go_enter Try.func24, Try.ntmps24
  go_wp2_with fail
  go_still_tail 4, (by kernel_rfl)
  go_wp2_with (refine wpList_copy_run rfl (.tmp 10) (.tmp 12) rfl rfl rfl rfl C1.out ?_)
  go_still_tail 4, (by kernel_rfl)
  go_wp2_with (refine wpList_copy_run rfl (.tmp 15) (.tmp 17) rfl rfl rfl rfl C2.out ?_)
  go_still_tail 4, (by kernel_rfl)
  go_wp2_with (first
    | (refine wpList_copy_run rfl (.tmp 20) (.tmp 22) rfl rfl rfl rfl C3.out ?_)
    | (refine wpList_load_row rfl 61 (.tmp 4) rfl (w.heap.size + 1) rfl 61 CS (0, 0) _ GS.out Try.underlying61 rfl IS.out ?_))
  refine (WR.out _).mono ?_
  rintro e w1 ⟨g, rfl, hS, hB, _⟩
  have S1 := Lib.hid hS
  have B1 : Hid (Below w.heap.size w w1) := BB.out.trans (hB.mono BB.out.size)
  have GR1 : Hid (w1.heap[w.heap.size]? = some (.cells Z 61 (0, 0))) := (hB.block _ (blk_lt GR.out)).trans GR.out
  have GS1 : Hid (w1.heap[w.heap.size + 1]? = some (.cells CS 61 (0, 0))) := (hB.block _ (blk_lt GS.out)).trans GS.out
  clear hS hB
  go_wp2_with fail
  refine (same _ _ _ _ _ S1.out (SE.out.below B1.out)).mono ?_
  rw [HQ.out]
  rintro e w2 ⟨rfl, rfl⟩
  cases q with
  | true =>
    go_wp2_with (first
      | (refine wpList_load_row rfl 61 (.tmp 4) rfl (w.heap.size + 1) rfl 61 CS (0, 0) _ GS1.out Try.underlying61 rfl IS.out ?_)
      | (refine wpList_store_row rfl 61 (.tmp 2) (.tmp 30) rfl w.heap.size CS rfl rfl 61 Z GR1.out IS.out ZS.out OS.out ?_))
    exact bodyPost_ret (v := .tuple #[.agg CS, .int .i64 0]) (results_cell_tmp Try.results24 _ _ w.heap.size 61 CS (0, 0) _ rfl (setRow_heap _ _ _ _ _ _ GR1.out) Try.underlying61 rfl IS.out) rfl ⟨rfl, B1.out.trans (below_row _ _ (Nat.le_refl _))⟩
  | false =>
    go_wp2_with (refine wpList_store_row rfl 61 (.tmp 2) (.tmp 29) rfl w.heap.size Z rfl rfl 61 Z GR1.out IZ.out rfl OZ.out ?_)
    exact bodyPost_ret (v := .tuple #[.agg Z, .int .i64 3]) (results_cell_tmp Try.results24 _ _ w.heap.size 61 Z (0, 0) _ rfl (setRow_heap _ _ _ _ _ _ GR1.out) Try.underlying61 rfl IZ.out) rfl ⟨rfl, B1.out.trans (below_row _ _ (Nat.le_refl _))⟩
theorem slotR (v : Value) (xs : List Int) (w : World) (h : Sees w v xs) : Calls Try.prog 24 #[v] w (ReadSP w xs) := by
  by_cases hl : xs.length = 512
  · exact slotR_full v xs hl w h
  · exact slotR_other v xs hl w h
end Go.Proofs.Ytplffbpnjnbolaa
