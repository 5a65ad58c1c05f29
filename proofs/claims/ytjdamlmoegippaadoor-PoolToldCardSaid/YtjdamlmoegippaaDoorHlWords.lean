/-
  Contracts of the functions that the statements of package sha go through: a block's sixty-four numbers. Condition: the block has 64 bytes.
-/
import Derived.Test.YtjdamlmoegippaaDoorHlRot
import Derived.Deep.QuietTactic
import Derived.BigQuiet
namespace Go.Proofs.YtjdamlmoegippaaDoor.hl
open Go.RowKit

/-- A row of numbers of 32 digits. -/
def ucells (xs : List Int) : Array Value := (xs.map (Value.int .u32)).toArray
def U32 (xs : List Int) : Prop := ∀ x ∈ xs, 0 ≤ x ∧ x ≤ 4294967295
theorem U32.nth {xs : List Int} (h : U32 xs) (i : Nat) : 0 ≤ nth xs i ∧ nth xs i ≤ 4294967295 := by
  unfold YtjdamlmoegippaaDoor.hl.nth
  by_cases hi : i < xs.length
  · have e : xs.getD i 0 = xs[i] := by simp [List.getD, hi]
    rw [e]; exact h _ (List.getElem_mem hi)
  · have e : xs.getD i 0 = 0 := by simp [List.getD, List.getElem?_eq_none (show xs.length ≤ i by omega)]
    rw [e]; omega

def sig0 (x : Int) : Int := bits .xor .u32 (bits .xor .u32 (rot 7 x) (rot 18 x)) (x / 8)
def sig1 (x : Int) : Int := bits .xor .u32 (bits .xor .u32 (rot 17 x) (rot 19 x)) (x / 1024)
/-- The next number. -/
def nw (B l : List Int) (k : Nat) : Int :=
  if k < 16 then numI ((B.drop (4 * k)).take 4) else (nth l (k - 16) + sig0 (nth l (k - 15)) + nth l (k - 7) + sig1 (nth l (k - 2))) % 4294967296
/-- The first k numbers. -/
def wl (B : List Int) : Nat → List Int
  | 0 => []
  | k + 1 => wl B k ++ [nw B (wl B k) k]
theorem wl_len (B : List Int) : ∀ k, (wl B k).length = k
  | 0 => rfl
  | k + 1 => by simp [wl, wl_len B k]
theorem nw_bd (B l : List Int) (k : Nat) (hB : B.length = 64) (hb : Byt B) : 0 ≤ nw B l k ∧ nw B l k ≤ 4294967295 := by
  unfold nw
  split
  · have := numI_part B (4 * k) 4 hb (by omega)
    omega
  · omega
theorem wl_u32 (B : List Int) (hB : B.length = 64) (hb : Byt B) : ∀ k, U32 (wl B k)
  | 0 => fun x h => by simp [wl] at h
  | k + 1 => fun x h => by
    simp only [wl, List.mem_append, List.mem_singleton] at h
    rcases h with h | h
    · exact wl_u32 B hB hb k x h
    · rw [h]; exact nw_bd B _ k hB hb

/-- What the array of words holds when k are made. -/
def ww (B : List Int) (k : Nat) : List Int := wl B k ++ List.replicate (64 - k) 0
theorem ww_len (B : List Int) (k : Nat) (h : k ≤ 64) : (ww B k).length = 64 := by simp [ww, wl_len]; omega
theorem ww_set (B : List Int) (k : Nat) (h : k < 64) : (ucells (ww B k)).setIfInBounds k (.int .u32 (nw B (wl B k) k)) = ucells (ww B (k + 1)) := by
  obtain ⟨m, hm⟩ : ∃ m, 64 - k = m + 1 := ⟨63 - k, by omega⟩
  have hm2 : 64 - (k + 1) = m := by omega
  apply Array.toList_inj.1
  simp only [ucells, ww, hm, hm2, wl, Array.toList_setIfInBounds, List.map_append, List.replicate_succ, List.map_cons, List.map_nil]
  rw [List.set_append_right _ _ (by simp [wl_len])]
  simp [wl_len]
theorem ww_cell {w : World} {g k : Nat} {B : List Int} {j : Nat} (h : w.heap[g]? = some (.cells (ucells (ww B k)) 133 (0, 0))) (hk : k ≤ 64) (hj : j < 64) : w.cell? ⟨g, j, none⟩ = some (.int .u32 (nth (ww B k) j)) := by
  rw [cell_of_row _ _ _ _ _ _ h]
  have := ww_len B k hk
  simp [ucells, nth, List.getD, this, hj]
theorem ww_old (B : List Int) (k j : Nat) (hj : j < k) : nth (ww B k) j = nth (wl B k) j := by
  unfold nth ww
  simp [List.getD, List.getElem?_append_left (show j < (wl B k).length by rw [wl_len]; exact hj)]
theorem sees_arr {w : World} {g : Nat} {B : List Int} {t : TypeId} (hB : B.length = 64) (hb : Byt B) (h : w.heap[g]? = some (.cells (bcells B) t (0, 0))) : Sees w (.slice (some ⟨g, 0, none⟩) 64 64) B := by
  refine ⟨hb, .inr (.inr ⟨g, 0, 64, by rw [hB], by intro e; rw [e] at hB; simp at hB, by omega, by decide, fun i hi => ?_⟩)⟩
  rw [cell_of_row _ _ _ _ _ _ h]
  simp [bcells, nth, List.getD, hi]
theorem below_row {B g : Nat} (w : World) (cs : Array Value) (hg : B ≤ g) : Below B w (w.setRow g cs) :=
  ⟨rfl, rfl, rfl, by simp, fun k hk => setRow_other w g k cs (by omega)⟩
theorem info59 : (Tryd.prog.info? 133).map (·.size) = some 64 := by kernel_rfl
theorem zero64 : (#[.int .u32 0, .int .u32 0, .int .u32 0, .int .u32 0, .int .u32 0, .int .u32 0, .int .u32 0, .int .u32 0, .int .u32 0, .int .u32 0, .int .u32 0, .int .u32 0, .int .u32 0, .int .u32 0, .int .u32 0, .int .u32 0, .int .u32 0, .int .u32 0, .int .u32 0, .int .u32 0, .int .u32 0, .int .u32 0, .int .u32 0, .int .u32 0, .int .u32 0, .int .u32 0, .int .u32 0, .int .u32 0, .int .u32 0, .int .u32 0, .int .u32 0, .int .u32 0, .int .u32 0, .int .u32 0, .int .u32 0, .int .u32 0, .int .u32 0, .int .u32 0, .int .u32 0, .int .u32 0, .int .u32 0, .int .u32 0, .int .u32 0, .int .u32 0, .int .u32 0, .int .u32 0, .int .u32 0, .int .u32 0, .int .u32 0, .int .u32 0, .int .u32 0, .int .u32 0, .int .u32 0, .int .u32 0, .int .u32 0, .int .u32 0, .int .u32 0, .int .u32 0, .int .u32 0, .int .u32 0, .int .u32 0, .int .u32 0, .int .u32 0, .int .u32 0] : Array Value) = ucells (ww [] 0) := rfl
theorem ww_zero (B : List Int) : ww B 0 = ww [] 0 := rfl

set_option maxRecDepth 100000 in
set_option maxHeartbeats 2000000 in
theorem words (B : List Int) (hB : B.length = 64) (hb : Byt B) (w : World) : Calls Tryd.prog 70 #[.agg (bcells B)] w fun e w' => e = .returned (.agg (ucells (wl B 64))) ∧ Below w.heap.size w w' := by
  go_enter Tryd.func70, Tryd.ntmps70
  go_wp2
  go_loopw [10] (fun i wr => ∃ k : Nat, k ≤ 16 ∧ i = .int .i64 k ∧ wr.heap[w.heap.size]? = some (.cells (bcells B) 92 (0, 0)) ∧ (∃ c2, wr.heap[w.heap.size + 1]? = some (.cells c2 133 (0, 0)) ∧ c2.size = 64) ∧
    wr.heap[w.heap.size + 1 + 1]? = some (.cells (ucells (ww B k)) 133 (0, 0)) ∧ Below w.heap.size w wr) (fun i _ => 16 - (intOf i).toNat)
  case atStart =>
    rw [zero64]
    refine ⟨0, by omega, rfl, ?_, ⟨ucells (ww [] 0), ?_, rfl⟩, ?_, (((Below.refl _ _).alloc (Nat.le_refl _) _).alloc (by simp) _).alloc (by simp; omega) _⟩
    · rw [Below.heap_alloc _ _ _ (by simp; omega), Below.heap_alloc _ _ _ (by simp)]; exact heap_alloc_new w _
    · rw [Below.heap_alloc _ _ _ (by simp)]; exact heap_alloc2_new w _ _
    · rw [ww_zero B]
      have := heap_alloc_new ((w.alloc (.cells (bcells B) 92)).alloc (.cells (ucells (ww [] 0)) 133)) (.cells (ucells (ww [] 0)) 133)
      simpa using this
  case round =>
    obtain ⟨k, hk, rfl, hg1, ⟨c2, hg2, hc2⟩, hg3, hbel⟩ := hrel
    by_cases hlt : k < 16
    · have S := Lib.hid (sees_arr hB hb hg1)
      have cX := ww_cell hg3 (by omega) (show k < 64 by omega)
      have fX := frozen_of_row wr (w.heap.size + 1 + 1) k _ 133 hg3
      have G1 := Lib.hid hg1
      have G2 := Lib.hid hg2
      have G3 := Lib.hid hg3
      have HB := Lib.hid hbel
      have NW : Hid (nw B (wl B k) k = numI ((B.drop (4 * k)).take 4)) := if_pos hlt
      have GV : Hid (getV B (4 * (k : Int)) 4 = numI ((B.drop (4 * k)).take 4)) := by
        show _ = _
        unfold getV
        rw [if_neg (by omega), if_neg (by rw [hB]; omega), show (4 * (k : Int)).toNat = 4 * k by omega]
      clear hg1 hg2 hg3 hbel
      go_wp2_with fail
      refine (get32 _ B (4 * (k : Int)) (by omega) _ S.out).mono ?_
      rintro e w1 ⟨rfl, rfl⟩
      go_wp2_with fail
      go_roundw
      case rel =>
        refine ⟨k + 1, by omega, by go_num, ?_, ⟨c2, ?_, hc2⟩, ?_, HB.out.setCell (by simp; omega) _⟩
        · rw [heap_setCell_other _ _ _ _ (by simp; omega)]; exact G1.out
        · rw [heap_setCell_other _ _ _ _ (by simp)]; exact G2.out
        · rw [heap_setCell_same _ _ _ _ _ _ G3.out, GV.out, ← NW.out, ww_set B k (by omega)]
      case measure => simp [intOf]; omega
    · have hk16 : 16 ≤ k := by omega
      have G2 := Lib.hid hg2
      have G3 := Lib.hid hg3
      have HB := Lib.hid hbel
      clear hg1 hg2 hg3 hbel
      go_wp2_with fail
      go_loopw [5] (fun i wr => ∃ n : Nat, n ≤ 48 ∧ i = .int .i64 ((n : Int) + 16) ∧ (∃ c2, wr.heap[w.heap.size + 1]? = some (.cells c2 133 (0, 0)) ∧ c2.size = 64) ∧
        wr.heap[w.heap.size + 1 + 1]? = some (.cells (ucells (ww B (n + 16))) 133 (0, 0)) ∧ Below w.heap.size w wr) (fun i _ => 64 - (intOf i).toNat)
      case atStart => exact ⟨0, by omega, rfl, ⟨c2, G2.out, hc2⟩, by (have h16 : 0 + 16 = k := by omega); rw [h16]; exact G3.out, HB.out⟩
      case round =>
        clear G2 G3 HB hc2
        obtain ⟨n, hn, rfl, ⟨c2, hg2, hc2⟩, hg3, hbel⟩ := hrel
        by_cases hlt : n < 48
        · have x0 := ww_cell hg3 (by omega) (show n < 64 by omega)
          have x1 := ww_cell hg3 (by omega) (show n + 1 < 64 by omega)
          have x9 := ww_cell hg3 (by omega) (show n + 9 < 64 by omega)
          have x14 := ww_cell hg3 (by omega) (show n + 14 < 64 by omega)
          have x16 := ww_cell hg3 (by omega) (show n + 16 < 64 by omega)
          have f16 := frozen_of_row wr (w.heap.size + 1 + 1) (n + 16) _ 133 hg3
          rw [ww_old _ _ _ (by omega)] at x0 x1 x9 x14
          have hu := wl_u32 B hB hb (n + 16)
          have b0 := hu.nth n
          have b1 := hu.nth (n + 1)
          have b9 := hu.nth (n + 9)
          have b14 := hu.nth (n + 14)
          have NW : Hid (nw B (wl B (n + 16)) (n + 16) = (nth (wl B (n + 16)) n + sig0 (nth (wl B (n + 16)) (n + 1)) + nth (wl B (n + 16)) (n + 9) + sig1 (nth (wl B (n + 16)) (n + 14))) % 4294967296) := by
            show _ = _
            unfold nw
            rw [if_neg (by omega)]
            rfl
          have G2 := Lib.hid hg2
          have G3 := Lib.hid hg3
          have HB := Lib.hid hbel
          generalize nth (wl B (n + 16)) n = y0 at x0 b0 NW
          generalize nth (wl B (n + 16)) (n + 1) = y1 at x1 b1 NW
          generalize nth (wl B (n + 16)) (n + 9) = y9 at x9 b9 NW
          generalize nth (wl B (n + 16)) (n + 14) = y14 at x14 b14 NW
          obtain ⟨l0, h0⟩ := b0
          obtain ⟨l1, h1⟩ := b1
          obtain ⟨l9, h9⟩ := b9
          obtain ⟨l14, h14⟩ := b14
          clear hg2 hg3 hbel hu
          go_wp2_with fail
          go_quiet (fail)
          go_wp2_with fail
          refine (turned7 _ _).mono ?_
          rintro e w' ⟨rfl, rfl⟩
          go_wp2_with fail
          refine (turned18 _ _).mono ?_
          rintro e w' ⟨rfl, rfl⟩
          go_wp2_with fail
          refine (turned17 _ _).mono ?_
          rintro e w' ⟨rfl, rfl⟩
          go_wp2_with fail
          refine (turned19 _ _).mono ?_
          rintro e w' ⟨rfl, rfl⟩
          go_wp2_with fail
          have p8 := bits_u32 .xor (bits .xor .u32 (rot 7 y1) (rot 18 y1)) (y1 / 8)
          have p9 := bits_u32 .xor (bits .xor .u32 (rot 17 y14) (rot 19 y14)) (y14 / 1024)
          obtain ⟨p8a, p8b⟩ := p8
          obtain ⟨p9a, p9b⟩ := p9
          go_region
          all_goals
            go_wp2_with fail
            go_roundw
            case rel =>
              have hb3 : Below w.heap.size w ((wr.drewN (nq + 1)).setCell ⟨w.heap.size + 1 + 1, n + 16, none⟩ (.int .u32 (nw B (wl B (n + 16)) (n + 16)))) := by
                have h1 : Below w.heap.size w (wr.drewN (nq + 1)) := HB.out.trans ⟨rfl, rfl, rfl, Nat.le_refl _, fun _ _ => rfl⟩
                exact h1.setCell (by simp; omega) _
              rw [NW.out] at hb3
              refine ⟨n + 1, by omega, by go_num, ⟨c2, ?_, hc2⟩, ?_, hb3⟩
              · rw [heap_setCell_other _ _ _ _ (by simp)]; exact G2.out
              · have hg : (wr.drewN (nq + 1)).heap[w.heap.size + 1 + 1]? = some (.cells (ucells (ww B (n + 16))) 133 (0, 0)) := G3.out
                have hv := ww_set B (n + 16) (by omega)
                rw [NW.out] at hv
                rw [heap_setCell_same _ _ _ _ _ _ hg, Nat.add_right_comm n 1 16, ← hv]
                rfl
            case measure => simp [intOf]; omega
        · obtain rfl : n = 48 := by omega
          have G3 := Lib.hid hg3
          have HB := Lib.hid hbel
          have hs2 : c2.size = (ucells (wl B 64)).size := by rw [hc2]; simp [ucells, wl_len]
          have hww : ww B (48 + 16) = wl B 64 := by simp [ww]
          rw [hww] at hg3
          have hi59 : (Tryd.prog.info? 133).map (·.size) = some (ucells (wl B 64)).size := by rw [info59]; simp [ucells, wl_len]
          have hone : (ucells (wl B 64)).all (·.oneCell') = true := by simp [ucells, Value.oneCell']
          have hres := hg2
          clear hbel
          go_wp2_with (first
            | (refine wpList_load_row rfl 133 _ rfl (w.heap.size + 1 + 1) rfl 133 _ (0, 0) _ hg3 Tryd.underlying133 rfl hi59 ?_)
            | (refine wpList_store_row rfl 133 _ _ rfl (w.heap.size + 1) _ rfl rfl 133 c2 hg2 hi59 hs2 hone ?_))
          refine bodyPost_ret (v := .agg (ucells (wl B 64))) (results_cell_row Tryd.results70 _ _ (w.heap.size + 1) 133 _ (0, 0) _ rfl (setRow_heap _ _ _ _ _ _ hg2) Tryd.underlying133 rfl hi59) rfl ⟨rfl, ?_⟩
          exact HB.out.trans (below_row _ _ (by omega))
end Go.Proofs.YtjdamlmoegippaaDoor.hl
