/-
  Contracts of the functions that the statements of package hmac go through: streams. Condition: the name reads as bytes, fewer than 2^48; at most 8160 bytes are asked.
-/
import Derived.Test.YtmkaagiabafooaaDoorMac
import Derived.Deep.LoopGhost
import Derived.WalkMore
import Derived.Outline
namespace Go.Proofs.YtmkaagiabafooaaDoor
open Go.RowKit
/-- The parts of a stream. -/
def tpart (key name : List Int) : Nat → List Int
  | 0 => []
  | i + 1 => mac key (tpart key name i ++ name ++ [((i + 1 : Nat) : Int)])
/-- .. one behind the other. -/
def tstr (key name : List Int) : Nat → List Int
  | 0 => []
  | i + 1 => tstr key name i ++ tpart key name (i + 1)
/-- The first n bytes of the stream. -/
def strm (key name : List Int) (n : Nat) : List Int := (tstr key name 255).take n
theorem tpart_len (key name : List Int) (hk : Byt key) (i : Nat) : (tpart key name (i + 1)).length = 32 := mac_len _ _ hk
theorem tpart_byt (key name : List Int) : ∀ i, Byt (tpart key name i)
  | 0 => fun _ h => by simp [tpart] at h
  | i + 1 => mac_byt _ _
theorem tstr_len (key name : List Int) (hk : Byt key) : ∀ i, (tstr key name i).length = 32 * i
  | 0 => rfl
  | i + 1 => by rw [tstr, List.length_append, tstr_len key name hk i, tpart_len key name hk]; omega
theorem tstr_byt (key name : List Int) : ∀ i, Byt (tstr key name i)
  | 0 => fun _ h => by simp [tstr] at h
  | i + 1 => (tstr_byt key name i).append (tpart_byt key name (i + 1))
theorem tstr_more (key name : List Int) (i : Nat) : ∀ k, ∃ r, tstr key name (i + k) = tstr key name i ++ r
  | 0 => ⟨[], by simp⟩
  | k + 1 => by
    obtain ⟨r, hr⟩ := tstr_more key name i k
    exact ⟨r ++ tpart key name (i + k + 1), by rw [← Nat.add_assoc, tstr, hr, List.append_assoc]⟩
theorem strm_at (key name : List Int) (hk : Byt key) (i j : Nat) (hi : i ≤ 254) (hj : j ≤ 32) : strm key name (32 * i + j) = tstr key name i ++ (tpart key name (i + 1)).take j := by
  obtain ⟨r, hr⟩ := tstr_more key name (i + 1) (254 - i)
  have e : i + 1 + (254 - i) = 255 := by omega
  rw [e] at hr
  unfold strm
  rw [hr, tstr, List.append_assoc]
  have hl := tstr_len key name hk i
  have hp := tpart_len key name hk i
  rw [List.take_append, hl, List.take_of_length_le (by omega), Nat.add_sub_cancel_left, List.take_append_of_le_length (by omega)]
theorem strm_len (key name : List Int) (hk : Byt key) (n : Nat) (h : n ≤ 8160) : (strm key name n).length = n := by
  unfold strm; rw [List.length_take, tstr_len key name hk]; omega
theorem strm_byt (key name : List Int) (n : Nat) : Byt (strm key name n) := (tstr_byt key name 255).take n
theorem Own.base {w : World} {b b' : Nat} {v : Value} {xs : List Int} (h : Own w b v xs) (hb : b' ≤ b) : Own w b' v xs := by
  obtain ⟨h1, h2, h3 | ⟨g, cap, cur, e, hg, r⟩⟩ := h
  · exact ⟨h1, h2, .inl h3⟩
  · exact ⟨h1, h2, .inr ⟨g, cap, cur, e, Nat.le_trans hb hg, r⟩⟩
theorem len48 : Tryd.prog.arrayLen 48 = 32 := by kernel_rfl
theorem und48 : Tryd.prog.underlying 48 = some (.array (Tryd.prog.arrayLen 48) (Tryd.prog.elem 48)) := by kernel_rfl
theorem size48 (W : World) : (sizeOf (Tryd.prog.elem 48)).run Tryd.prog W = .ok 1 W := by kernel_rfl
theorem i48 : (Tryd.prog.info? 48).map (·.size) = some 32 := by kernel_rfl
/-- 'a[:]' of a key. -/
theorem key_all (g : Nat) (W : World) : (Instr.sliceAt 48 (.pointer (some ⟨g, 0, none⟩)) none none none).run Tryd.prog W = .ok (.slice (some ⟨g, 0, none⟩) 32 32) W := by
  rw [run_sliceAt_array_all W 48 ⟨g, 0, none⟩ und48, size48]
  simp [Result.andThen, slicedAt, len48, addr_add]
theorem row_sees {w : World} {g : Nat} {xs : List Int} {t : TypeId} (h : w.heap[g]? = some (.cells (bcells xs) t (0, 0))) (hl : xs.length = 32) (hb : Byt xs) : Sees w (.slice (some ⟨g, 0, none⟩) 32 32) xs := by
  refine ⟨hb, .inr (.inr ⟨_, _, _, by rw [hl], by intro e; rw [e] at hl; simp at hl, by rw [hl]; omega, by decide, fun i hi => ?_⟩)⟩
  rw [cell_of_row _ _ _ _ _ _ h, Nat.zero_add]
  simp [bcells, nth, List.getD, hi]
theorem mkCap (n : Nat) (hn : n ≤ 8160) (w : World) : (Instr.makeSlice 22 (.int .i64 0) (.int .i64 n)).run Tryd.prog w =
    .ok (.slice (some ⟨w.heap.size, 0, none⟩) 0 n) (w.alloc (.cells (bcells (List.replicate n 0)) 5)) := by
  obtain ⟨i, hi, hz0, hz1, hz2⟩ := info_parts info5
  have h := run_make (P := Tryd.prog) w 22 5 i _ Tryd.underlying22 hi hz0 .i64 .i64 0 n (by omega) (by omega) (by rw [hz2]; omega) (by omega)
  rw [h]
  simp only [Int.toNat_natCast, hz1, Nat.mul_one]
  rw [made_bytes]
  rfl
def StreamP (w : World) (key name : List Int) (n : Nat) (e : Ending) (w' : World) : Prop :=
  ∃ q cap, e = .returned (.slice q n cap) ∧ Own w' w.heap.size (.slice q n cap) (strm key name n) ∧ Below w.heap.size w w'
/-- The stream's state within part i + 1, j bytes of it written. -/
structure SI (w wr : World) (key name : List Int) (i j gp : Nat) (q : Option Addr) (cap : Nat) : Prop where
  own : Own wr (w.heap.size + 1) (.slice q (32 * i + j) cap) (tstr key name i ++ (tpart key name (i + 1)).take j)
  row : Row27 wr gp (tpart key name (i + 1))
  krow : wr.heap[w.heap.size]? = some (.cells (bcells key) 48 (0, 0))
  bel : Below w.heap.size w wr
theorem byt_one (x : Int) (h : 0 ≤ x ∧ x ≤ 255) : Byt [x] := fun y hy => by
  rw [List.mem_singleton] at hy; rw [hy]; exact h
theorem five_sees (x : Int) (w : World) (h : 0 ≤ x ∧ x ≤ 255) : Sees (w.alloc (.cells #[.int .u8 x] 5)) (.slice (some ⟨w.heap.size, 0, none⟩) 1 1) [x] := by
  refine ⟨byt_one x h, .inr (.inr ⟨_, _, _, rfl, by simp, by simp, by decide, fun i hi => ?_⟩)⟩
  obtain rfl : i = 0 := by simpa using hi
  rw [cell_of_row _ _ _ _ _ _ (heap_alloc_new w _)]
  rfl
theorem Own.not27 {w : World} {base : Nat} {v : Value} {xs ys : List Int} {g : Nat} (h : Own w base v xs) (hr : Row27 w g ys) : ∀ k, v.ownBlock = some k → g ≠ k := by
  intro k hk e
  subst e
  obtain ⟨_, _, ⟨rfl, _⟩ | ⟨g', cap, cur, rfl, _, hg, _⟩⟩ := h
  · simp [Value.ownBlock] at hk
  · have : g' = g := by simpa [Value.ownBlock] using hk
    subst this
    unfold Row27 at hr
    rw [hr] at hg
    simp at hg
theorem Own.from_ {w : World} {base : Nat} {v : Value} {xs : List Int} (h : Own w base v xs) : ∀ k, v.ownBlock = some k → base ≤ k := by
  intro k hk
  obtain ⟨_, _, ⟨rfl, _⟩ | ⟨g', cap, cur, rfl, hb, hg, _⟩⟩ := h
  · simp [Value.ownBlock] at hk
  · have : g' = k := by simpa [Value.ownBlock] using hk
    omega
theorem SI.grow {w wr : World} {key name : List Int} {i j gp : Nat} {q : Option Addr} {cap : Nat} (h : SI w wr key name i j gp q cap) (hk : Byt key) (hj : j < 32) (hi : i ≤ 254) :
    ∃ q' cap' w', (Builtin.append_ #[22, 22] 22 #[.slice q (32 * i + j) cap, .slice (some ⟨wr.heap.size, 0, none⟩) 1 1]).run Tryd.prog (wr.alloc (.cells #[.int .u8 (nth (tpart key name (i + 1)) j)] 5)) = .ok (.slice q' (32 * i + (j + 1)) cap') w' ∧ SI w w' key name i (j + 1) gp q' cap' := by
  obtain ⟨ho, hr, hkr, hb⟩ := h
  have hp := tpart_len key name hk i
  have hl : (tstr key name i ++ (tpart key name (i + 1)).take j).length = 32 * i + j := by
    rw [List.length_append, tstr_len key name hk, List.length_take, hp]; omega
  have hB : Below wr.heap.size wr (wr.alloc (.cells #[.int .u8 (nth (tpart key name (i + 1)) j)] 5)) := (Below.refl _ _).alloc (Nat.le_refl _) _
  have hx := (tpart_byt key name (i + 1)).nth j
  have hlt := blk_lt hkr
  obtain ⟨q', cap', w', h1, h2, h3, h4⟩ := app (ho.below hB) (five_sees _ wr hx) (by rw [hl]; simp; omega) (by have := hB.size; omega)
  rw [hl] at h1 h2
  simp only [List.length_singleton, Nat.add_assoc] at h1 h2
  refine ⟨q', cap', w', h1, ⟨?_, ?_, ?_, ?_⟩⟩
  · rw [List.append_assoc, ← take_snoc _ _ (by omega)] at h2
    exact h2
  · have hr2 := hr.below hB
    cases hv : (Value.slice q (32 * i + j) cap).ownBlock with
    | none =>
      rw [hv] at h3
      unfold Row27
      rw [h3.block _ (blk_lt hr2) (by simp)]
      exact hr2
    | some k =>
      rw [hv] at h3
      exact hr2.grown h3 (ho.not27 hr k hv)
  · rw [h4.block _ (Nat.lt_succ_self _), Below.heap_alloc _ _ _ hlt]; exact hkr
  · exact (hb.alloc hb.size _).trans (h4.mono (Nat.le_succ _))
/-- The call of mark for a part. -/
theorem part_call (key name : List Int) (vn vp : Value) (i g : Nat) (w : World) (hk : Byt key) (lk : key.length = 32) (hn : Sees w vn name) (ln : name.length ≤ 281474976710656) (hp : Sees w vp (tpart key name i)) (hi : i ≤ 254) (hg : w.heap[g]? = some (.cells (bcells key) 48 (0, 0))) (hG : Glob w) :
    Calls Tryd.prog 38 #[.slice (some ⟨g, 0, none⟩) 32 32, .slice (some ⟨w.heap.size + 1, 0, none⟩) 3 3] ((w.alloc (.cells #[.int .u8 ((i + 1 : Nat) : Int)] 5)).alloc (.cells #[vp, vn, .slice (some ⟨w.heap.size, 0, none⟩) 1 1] 22)) fun e w' => e = .returned (.agg (bcells (tpart key name (i + 1)))) ∧ Below (w.heap.size + 2) ((w.alloc (.cells #[.int .u8 ((i + 1 : Nat) : Int)] 5)).alloc (.cells #[vp, vn, .slice (some ⟨w.heap.size, 0, none⟩) 1 1] 22)) w' := by
  have h2 : 2 ≤ w.heap.size := by have := hG.lt; omega
  have hx : 0 ≤ ((i + 1 : Nat) : Int) ∧ ((i + 1 : Nat) : Int) ≤ 255 := by omega
  have hs0 : (w.alloc (.cells #[.int .u8 ((i + 1 : Nat) : Int)] 5)).heap.size = w.heap.size + 1 := by simp
  have hB0 : Below w.heap.size w (w.alloc (.cells #[.int .u8 ((i + 1 : Nat) : Int)] 5)) := (Below.refl _ _).alloc (Nat.le_refl _) _
  have hB1 : Below (w.heap.size + 1) (w.alloc (.cells #[.int .u8 ((i + 1 : Nat) : Int)] 5)) ((w.alloc (.cells #[.int .u8 ((i + 1 : Nat) : Int)] 5)).alloc (.cells #[vp, vn, .slice (some ⟨w.heap.size, 0, none⟩) 1 1] 22)) := (Below.refl _ _).alloc (by rw [hs0]; exact Nat.le_refl _) _
  have hB2 := hB0.trans (hB1.mono (Nat.le_succ _))
  have hlp : (tpart key name i).length ≤ 32 := by
    cases i with
    | zero => simp [tpart]
    | succ i => rw [tpart_len key name hk]; exact Nat.le_refl _
  have hL : LitL ((w.alloc (.cells #[.int .u8 ((i + 1 : Nat) : Int)] 5)).alloc (.cells #[vp, vn, .slice (some ⟨w.heap.size, 0, none⟩) 1 1] 22)) (w.heap.size + 1) [vp, vn, .slice (some ⟨w.heap.size, 0, none⟩) 1 1] [tpart key name i, name, [((i + 1 : Nat) : Int)]] := by
    refine ⟨?_, rfl, fun k hk => ?_⟩
    · rw [← hs0]; exact heap_alloc_new _ _
    · match k, hk with
      | 0, _ => exact hp.below hB2
      | 1, _ => exact hn.below hB2
      | 2, _ => exact (five_sees _ w hx).below (by rw [hs0]; exact hB1)
  have hK : Sees w (.slice (some ⟨g, 0, none⟩) 32 32) key := row_sees hg lk hk
  have e : ([tpart key name i, name, [((i + 1 : Nat) : Int)]] : List (List Int)).flatten = tpart key name i ++ name ++ [((i + 1 : Nat) : Int)] := by simp
  have hM := mark _ key (w.heap.size + 1) 3 _ _ _ (hK.below hB2) (by omega) hL (by simp) (by rw [e]; simp; omega) (hG.below hB2 h2)
  rw [e] at hM
  have hsz : ((w.alloc (.cells #[.int .u8 ((i + 1 : Nat) : Int)] 5)).alloc (.cells #[vp, vn, .slice (some ⟨w.heap.size, 0, none⟩) 1 1] 22)).heap.size = w.heap.size + 2 := by simp
  rw [hsz] at hM
  exact hM
/-- The mark's row, behind the call. -/
theorem SI.begin {w wr w1 : World} {key name : List Int} {i : Nat} {q : Option Addr} {cap : Nat} (X Y : Array Value) (Z : Array Value) (ho : Own wr (w.heap.size + 1) (.slice q (32 * i) cap) (tstr key name i)) (hkr : wr.heap[w.heap.size]? = some (.cells (bcells key) 48 (0, 0))) (hb : Below w.heap.size w wr)
    (h1 : Below (wr.heap.size + 2) ((wr.alloc (.cells X 5)).alloc (.cells Y 22)) w1) : SI w ((w1.alloc (.cells Z 27)).setRow w1.heap.size (bcells (tpart key name (i + 1)))) key name i 0 w1.heap.size q cap := by
  have hB : Below wr.heap.size wr ((wr.alloc (.cells X 5)).alloc (.cells Y 22)) := ((Below.refl _ _).alloc (Nat.le_refl _) _).alloc (by simp) _
  have hB1 : Below wr.heap.size wr w1 := hB.trans (h1.mono (by omega))
  have hB2 : Below wr.heap.size wr ((w1.alloc (.cells Z 27)).setRow w1.heap.size (bcells (tpart key name (i + 1)))) := (hB1.alloc hB1.size _).trans (below_row _ _ hB1.size)
  refine ⟨?_, setRow_heap _ _ _ _ _ _ (heap_alloc_new w1 _), ?_, hb.trans (hB2.mono hb.size)⟩
  · rw [List.take_zero, List.append_nil, Nat.add_zero]
    exact ho.below hB2
  · rw [hB2.block _ (blk_lt hkr)]; exact hkr
set_option maxRecDepth 100000 in
set_option maxHeartbeats 4000000 in
theorem stream (key name : List Int) (vn : Value) (n : Nat) (hn : n ≤ 8160) (w : World) (hk : Byt key) (lk : key.length = 32) (hv : Sees w vn name) (ln : name.length ≤ 281474976710656) (hG : Glob w) :
    Calls Tryd.prog 40 #[.agg (bcells key), vn, .int .i64 n] w (StreamP w key name n) := by
  obtain ⟨x, cx, rfl, _⟩ := id hv.form
  by_cases h0 : n = 0
  · subst h0
    have hst : strm key name 0 = [] := by simp [strm]
    have HST := Lib.hid hst
    clear hst hv hG
    obtain ⟨CK, hCK⟩ : ∃ C, C = bcells key := ⟨_, rfl⟩
    rw [← hCK]
    have HCK := Lib.hid hCK
    clear hCK
    go_enter Tryd.func40, Tryd.ntmps40
    go_wp2_with fail
    go_step3
    go_wp2_with fail
    rw [Exit.noGoto_ret]
    go_ret
    refine ⟨_, _, rfl, ?_, ?_⟩
    · rw [HST.out]
      exact ⟨(fun _ h => by simp at h), by simp, .inl ⟨rfl, rfl⟩⟩
    · exact (Below.refl _ _).alloc (Nat.le_refl _) _
  · have h2 : 2 ≤ w.heap.size := by have := hG.lt; omega
    have MC := mkCap n hn (w.alloc (.cells (bcells key) 48))
    have OW0 : Own ((w.alloc (.cells (bcells key) 48)).alloc (.cells (bcells (List.replicate n 0)) 5)) (w.heap.size + 1) (.slice (some ⟨w.heap.size + 1, 0, none⟩) 0 n) [] := ⟨(fun _ h => by simp at h), by simp, .inr ⟨_, _, _, rfl, Nat.le_refl _, by
      have := heap_alloc_new (w.alloc (.cells (bcells key) 48)) (.cells (bcells (List.replicate n 0)) 5)
      simpa using this, Nat.zero_le _, by unfold maxLen; omega, by simp [bcells], by simp⟩⟩
    have B0 : Below w.heap.size w ((w.alloc (.cells (bcells key) 48)).alloc (.cells (bcells (List.replicate n 0)) 5)) := ((Below.refl _ _).alloc (Nat.le_refl _) _).alloc (by simp) _
    have K0 : ((w.alloc (.cells (bcells key) 48)).alloc (.cells (bcells (List.replicate n 0)) 5)).heap[w.heap.size]? = some (.cells (bcells key) 48 (0, 0)) := by
      rw [Below.heap_alloc _ _ _ (by simp)]; exact heap_alloc_new w _
    have LO := Lib.hid (show Own ((w.alloc (.cells (bcells key) 48)).alloc (.cells (bcells (List.replicate n 0)) 5)) (w.heap.size + 1) (.slice (some ⟨w.heap.size + 1, 0, none⟩) 0 n) [] ∧ Below w.heap.size w ((w.alloc (.cells (bcells key) 48)).alloc (.cells (bcells (List.replicate n 0)) 5)) ∧ ((w.alloc (.cells (bcells key) 48)).alloc (.cells (bcells (List.replicate n 0)) 5)).heap[w.heap.size]? = some (.cells (bcells key) 48 (0, 0)) from ⟨OW0, B0, K0⟩)
    clear OW0 B0 K0
    have hsz : (w.alloc (.cells (bcells key) 48)).heap.size = w.heap.size + 1 := by simp
    rw [hsz] at MC
    clear hsz
    have HN := Lib.hid h0
    have HV := Lib.hid hv
    have HK := Lib.hid hk
    have LK := Lib.hid lk
    have LN := Lib.hid ln
    have HG := Lib.hid hG
    have H2 := Lib.hid h2
    have z27 := zv27
    obtain ⟨Z27, hZ27⟩ : ∃ Z, Z = bcells (List.replicate 32 0) := ⟨_, rfl⟩
    rw [← hZ27] at z27
    have LZ := Lib.hid (show Z27.size = 32 by rw [hZ27, bsize, List.length_replicate])
    obtain ⟨CK, hCK⟩ : ∃ C, C = bcells key := ⟨_, rfl⟩
    obtain ⟨CN, hCN⟩ : ∃ C, C = bcells (List.replicate n 0) := ⟨_, rfl⟩
    rw [← hCK, ← hCN] at MC
    rw [← hCK, ← hCN] at LO
    rw [← hCK]
    have HCK := Lib.hid hCK
    have ka := key_all
    have aa := arr32_all
    have b0 : ((n : Int) == 0) = false := by rw [beq_eq_false_iff_ne]; omega
    clear hv hk lk ln hG h2 hZ27 hCK hCN h0
    go_enter Tryd.func40, Tryd.ntmps40
    go_wp2_with fail
    go_step3
    go_wp2_with fail
    go_step3
    go_wp2_with fail
    go_loopg [7, 8, 9] n (fun k vo vp vi wr => ∃ (i : Nat) (q : Option Addr) (cap : Nat), k + 32 * i = n ∧ 32 * i < n ∧ vi = .int .u8 ((i + 1 : Nat) : Int) ∧ vo = .slice q (32 * i) cap ∧ (∃ xp cp, vp = .slice xp (tpart key name i).length cp) ∧ Own wr (w.heap.size + 1) (.slice q (32 * i) cap) (tstr key name i) ∧ Sees wr vp (tpart key name i) ∧ wr.heap[w.heap.size]? = some (.cells (bcells key) 48 (0, 0)) ∧ Below w.heap.size w wr)
    case atStart =>
      have HL := LO.out
      have hN := HN.out
      exact ⟨0, some ⟨w.heap.size + 1, 0, none⟩, n, by omega, by omega, rfl, rfl, ⟨none, 0, rfl⟩, HL.1, ⟨(fun _ h => by simp [tpart] at h), .inl ⟨rfl, rfl⟩⟩, by rw [← HCK.out]; exact HL.2.2, HL.2.1⟩
    case round =>
      obtain ⟨i, q, cap, hk1, hk2, rfl, rfl, ⟨xp, cp, rfl⟩, hO, hP, hR, hB⟩ := hrel
      have i254 : i ≤ 254 := by omega
      have HV' := Lib.hid (HV.out.below hB)
      have hlt := blk_lt hR
      have PC := Lib.hid (part_call key name _ _ i w.heap.size wr HK.out LK.out (HV.out.below (hB.mono (Nat.le_refl _))) LN.out hP i254 hR (HG.out.below hB H2.out))
      have lP := tpart_len key name HK.out i
      have IM := Lib.hid (show (Tryd.prog.info? 27).map (·.size) = some (bcells (tpart key name (i + 1))).size by rw [i27, bsize, lP])
      have ZM := Lib.hid (show Z27.size = (bcells (tpart key name (i + 1))).size by rw [LZ.out, bsize, lP])
      have OM := Lib.hid (bone (tpart key name (i + 1)))
      have GB : Hid (∀ w1 X Y, Below (wr.heap.size + 2) ((wr.alloc (.cells X 5)).alloc (.cells Y 22)) w1 → SI w ((w1.alloc (.cells Z27 27)).setRow w1.heap.size (bcells (tpart key name (i + 1)))) key name i 0 w1.heap.size q cap) := Lib.hid (fun w1 X Y h1 => SI.begin X Y Z27 hO hR hB h1)
      have HI := Lib.hid (show gk + 32 * i = n ∧ 32 * i < n ∧ i ≤ 254 from ⟨hk1, hk2, i254⟩)
      clear hO hP hR hB hk1 hk2 i254 hlt lP LO
      go_wp2_with fail
      refine PC.out.mono ?_
      rintro e w1 ⟨rfl, hb⟩
      have SB := Lib.hid (GB.out w1 _ _ hb)
      clear hb GB PC
      go_wp2_with (refine wpList_store_row rfl 27 _ _ rfl w1.heap.size (bcells (tpart key name (i + 1))) rfl rfl 27 Z27 (heap_alloc_new w1 _) IM.out ZM.out OM.out ?_)
      go_loopg [7, 29] 32 (fun k vo vi wr' => ∃ (j : Nat) (q' : Option Addr) (cap' : Nat), k + j = 32 ∧ 32 * i + j < n ∧ vi = .int .i64 j ∧ vo = .slice q' (32 * i + j) cap' ∧ SI w wr' key name i j w1.heap.size q' cap')
      case atStart => exact ⟨0, q, cap, by omega, by have := HI.out; omega, rfl, rfl, SB.out⟩
      case round =>
        obtain ⟨j, q', cap', hj1, hj2, rfl, rfl, hSI⟩ := hrel
        by_cases hlt : j < 32
        · have hc := hSI.row.cell j (by rw [tpart_len key name HK.out i]; exact hlt)
          obtain ⟨q2, cap2, w2, h1, h2⟩ := hSI.grow HK.out hlt HI.out.2.2
          have HR := Lib.hid h1
          have HS := Lib.hid h2
          have HJ := Lib.hid hj1
          clear h1 h2 hSI hj1
          by_cases hend : 32 * i + (j + 1) = n
          · have hE := Lib.hid hend
            have c1 : (32 * (i : Int) + ((j : Int) + 1)) = (n : Int) := by omega
            clear hend
            go_wp2_with (at_builtin; refine wpList_app rfl _ _ rfl rfl rfl rfl HR.out ?_)
            rw [Exit.noGoto_ret]
            go_ret
            have hs := HS.out
            have e := hE.out
            have hst := strm_at key name HK.out i (j + 1) HI.out.2.2 (by omega)
            rw [e] at hst
            have ho := hs.own
            rw [← hst, e] at ho
            refine ⟨q2, cap2, by rw [← e]; rfl, ho.base (Nat.le_succ _), hs.bel⟩
          · have c1 : ¬ (32 * (i : Int) + ((j : Int) + 1)) = (n : Int) := by omega
            have hE := Lib.hid hend
            clear hend
            go_wp2_with (at_builtin; refine wpList_app rfl _ _ rfl rfl rfl rfl HR.out ?_)
            go_roundg (32 - (j + 1))
            case rel =>
              have h1 := hE.out
              exact ⟨j + 1, q2, cap2, by omega, by omega, by go_num, rfl, HS.out⟩
            case measure =>
              have h1 := HJ.out
              omega
        · obtain rfl : j = 32 := by omega
          have HS := Lib.hid hSI
          clear hSI
          go_wp2_with fail
          go_roundg (n - 32 * (i + 1))
          case rel =>
            have hs := HS.out
            have ho := hs.own
            rw [List.take_of_length_le (by rw [tpart_len key name HK.out i]; exact Nat.le_refl _)] at ho
            have h1 := HI.out
            refine ⟨i + 1, q', cap', by omega, by omega, by go_num, rfl, ⟨_, _, by rw [tpart_len key name HK.out i]⟩, ho, hs.row.sees (tpart_len key name HK.out i) (tpart_byt key name _), hs.krow, hs.bel⟩
          case measure =>
            have h1 := HI.out
            omega
end Go.Proofs.YtmkaagiabafooaaDoor
