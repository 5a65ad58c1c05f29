/-
  The contracts of the statements' own Block, and of alive of package casematelaw22. Condition: none.
-/
import Derived.Test.YtpkeofioobmmoaaDoorKV
import Derived.Test.YtpkeofioobmmoaaDoorAeXtsG
import Derived.Laws.IdiomCopy
namespace Go.Proofs.YtpkeofioobmmoaaDoor
open Go.RowKit Go.Proofs.YtpkeofioobmmoaaDoor.ae
/-- A block of bytes, noughts behind them. -/
def padN (b : List Nat) : List Nat := b ++ zeros (512 - b.length)
theorem padN_len {b : List Nat} (h : b.length ≤ 512) : (padN b).length = 512 := by unfold padN; rw [List.length_append, zeros_len]; omega
theorem padN_byt {b : List Nat} (h : ae.Byt b) : ae.Byt (padN b) := h.append (zeros_byt _)
def BlkP (w : World) (b : List Nat) (e : Ending) (w' : World) : Prop :=
  ∃ q, e = .returned (.slice (some ⟨q, 0, none⟩) 512 512) ∧ w.heap.size ≤ q ∧ w'.heap[q]? = some (.cells (ncells (padN b)) 5 (0, 0)) ∧ Below w.heap.size w w'
set_option maxRecDepth 100000 in
set_option maxHeartbeats 1000000 in
theorem blockC (b : List Nat) (x : Option Addr) (L cap : Nat) (w : World) (hs : ae.Sees w (.slice x L cap) b) (hL : L = b.length) (hl : L ≤ 512) : Calls Tryd.prog 26 #[.slice x L cap] w (BlkP w b) := by
  have hmk : ∀ W : World, (Instr.makeSlice 49 (.int .i64 512) (.int .i64 512)).run Tryd.prog W = .ok (.slice (some ⟨W.heap.size, 0, none⟩) 512 512) (W.alloc (.cells (ncells (zeros 512)) 5)) := fun W => mkN 512 (by omega) W
  obtain ⟨Z, hZ⟩ : ∃ Z, Z = ncells (zeros 512) := ⟨_, rfl⟩
  rw [← hZ] at hmk
  have G0 := Lib.hid (heap_alloc_new w (.cells Z 5))
  have HB : Hid (Below w.heap.size w (w.alloc (.cells Z 5))) := (Below.refl _ _).alloc (Nat.le_refl _) _
  by_cases h0 : b = []
  · subst h0
    obtain rfl : L = 0 := by simpa using hL
    have hp : padN [] = zeros 512 := by simp [padN]
    have HP := Lib.hid hp
    have HZ := Lib.hid hZ
    have HR := Lib.hid (run_copy_none (P := Tryd.prog) (w.alloc (.cells Z 5)) 49 49 3 5 (some ⟨w.heap.size, 0, none⟩) x 512 512 0 cap Tryd.underlying49 info5s (by simp))
    clear hp hs hL hl hZ
    go_enter Tryd.func26, Tryd.ntmps26
    go_wp2_with (refine wpList_copy_run rfl (.tmp 5) (.tmp 6) rfl rfl rfl rfl HR.out ?_)
    go_ret
    exact ⟨w.heap.size, rfl, Nat.le_refl _, by rw [HP.out, ← HZ.out]; exact G0.out, HB.out⟩
  · obtain ⟨bb, oo, rfl, h1, h2, h3, h4⟩ := hs.cells h0
    have hz5 : Z.size = 512 := by rw [hZ, nsize, zeros_len]
    have hr := run_copy_row Tryd.prog (w.alloc (.cells Z 5)) 49 49 3 5 w.heap.size 0 512 512 ⟨bb, oo, none⟩ L cap Z 5 (b.map fun n : Nat => Value.int .u8 (n : Int)) Tryd.underlying49 info5s G0.out (by rw [List.length_map, ← h1]; exact (Nat.min_eq_left hl).symm)
      (fun j v hj => by
        rw [List.getElem?_map] at hj
        have hj' : j < b.length := by
          rcases Nat.lt_or_ge j b.length with h | h
          · omega
          · rw [List.getElem?_eq_none h] at hj; simp at hj
        have hc := h4 j hj'
        rw [addr_add, HB.out.cell (World.block_lt_of_cell? w _ hc), hc]
        rw [List.getElem?_eq_getElem (by omega)] at hj
        simp at hj
        rw [← hj]
        simp [at_, List.getD, hj'])
      (by rw [List.length_map, hz5]; omega) (fun v hv => by simp at hv; obtain ⟨_, _, rfl⟩ := hv; rfl)
    have es := splice_end [] b 512 (by omega)
    rw [List.nil_append, List.nil_append, ← hZ] at es
    simp only [List.length_nil] at es
    rw [List.length_map, es] at hr
    have e0 : goInt b.length = .int .i64 L := by rw [← h1]; rfl
    rw [e0] at hr
    have HR := Lib.hid hr
    have R1 : Hid (((w.alloc (.cells Z 5)).setRow w.heap.size (ncells (b ++ zeros (512 - b.length)))).heap[w.heap.size]? = some (.cells (ncells (b ++ zeros (512 - b.length))) 5 (0, 0))) := setRow_heap _ _ _ _ _ _ G0.out
    have HB1 := Lib.hid (HB.out.trans (below_row (B := w.heap.size) _ (ncells (b ++ zeros (512 - b.length))) (Nat.le_refl _)))
    have PD : Hid (padN b = b ++ zeros (512 - b.length)) := rfl
    clear hr es e0 hs hL hl hz5 hZ h0 h1 h2 h3 h4
    generalize b ++ zeros (512 - b.length) = D at HR R1 HB1 PD
    go_enter Tryd.func26, Tryd.ntmps26
    go_wp2_with (refine wpList_copy_run rfl (.tmp 5) (.tmp 6) rfl rfl rfl rfl HR.out ?_)
    go_ret
    exact ⟨w.heap.size, rfl, Nat.le_refl _, by rw [PD.out]; exact R1.out, HB1.out⟩
/-- There and back. -/
theorem open_seal {m b : List Nat} (hm : ae.Bts 32 m) (n s : Nat) (hl : b.length = 512) (hb : ae.Byt b) : openN m n s (sealN m n s b) = b :=
  sct_back (n := 32) (enc_bts (vtwo_bts n hm) (twk_bts s)) hl hb (fun _ h => enc_bts (vone_bts n hm) h) (fun _ h => dec_enc (vone_bts n hm) h)
theorem seal_open {m b : List Nat} (hm : ae.Bts 32 m) (n s : Nat) (hl : b.length = 512) (hb : ae.Byt b) : sealN m n s (openN m n s b) = b :=
  sct_back (n := 32) (enc_bts (vtwo_bts n hm) (twk_bts s)) hl hb (fun _ h => dec_bts (vone_bts n hm) h) (fun _ h => enc_dec (vone_bts n hm) h)
theorem sealN_len (m : List Nat) (n s : Nat) (b : List Nat) : (sealN m n s b).length = 512 := sct_len _ _ _ 32
theorem openN_len (m : List Nat) (n s : Nat) (b : List Nat) : (openN m n s b).length = 512 := sct_len _ _ _ 32
theorem sealN_byt {m b : List Nat} (hm : ae.Bts 32 m) (n s : Nat) (hb : ae.Byt b) : ae.Byt (sealN m n s b) := sct_bts (fun _ h => enc_bts (vone_bts n hm) h) (enc_bts (vtwo_bts n hm) (twk_bts s)) hb 32
theorem openN_byt {m b : List Nat} (hm : ae.Bts 32 m) (n s : Nat) (hb : ae.Byt b) : ae.Byt (openN m n s b) := sct_bts (fun _ h => dec_bts (vone_bts n hm) h) (enc_bts (vtwo_bts n hm) (twk_bts s)) hb 32
/-- The fixed keys. -/
def fk1 : List Nat := [191, 39, 208, 104, 95, 51, 119, 131, 186, 184, 185, 7, 37, 176, 161, 176, 141, 161, 138, 51, 150, 145, 187, 253, 57, 38, 251, 34, 164, 166, 4, 58]
def fk2 : List Nat := [134, 195, 38, 8, 15, 243, 237, 161, 225, 234, 117, 31, 232, 116, 209, 184, 124, 130, 103, 194, 164, 116, 245, 100, 236, 236, 225, 172, 49, 93, 138, 74]
theorem derN_one (key nm : List Nat) (num : Nat) (hk : ae.Byt key) : derN key nm num = toN (sh.tstr (zl key) (zl nm ++ sh.be 8 num) 1) := by
  unfold derN
  rw [sh.strm32 _ _ (byt_zl hk)]
theorem fk1_eq : toN (sh.tstr (zl xk1) (zl nOne ++ sh.be 8 2) 1) = fk1 := by decide +kernel
theorem fk2_eq : toN (sh.tstr (zl xk1) (zl nTwo ++ sh.be 8 2) 1) = fk2 := by decide +kernel
theorem vone_fixed : vone xk1 2 = fk1 := by
  have := derN_one xk1 nOne 2 xk1_bts.2
  unfold vone
  rw [this]
  exact fk1_eq
theorem vtwo_fixed : vtwo xk1 2 = fk2 := by
  have := derN_one xk1 nTwo 2 xk1_bts.2
  unfold vtwo
  rw [this]
  exact fk2_eq
def fm : List Nat := turn (rkey fk2) (twk 3)
theorem f_unlike : Nat.beq (at_ (jn (turn (rkey fk1) (jn (120 :: zeros 15) fm)) fm) 0) 120 = false := by decide +kernel
/-- The fixed block. -/
def fb : List Nat := padN [120]
theorem fb_byt : ae.Byt fb := padN_byt (fun x h => by simp at h; omega)
theorem fb_len : fb.length = 512 := padN_len (by simp)
theorem fb_first : blk fb 0 = 120 :: zeros 15 := by
  refine bts_ext' (tab_len _ _) (by rw [List.length_cons, zeros_len]) fun i hi => ?_
  rw [blk, tab_at _ _ _ hi, Nat.mul_zero, Nat.zero_add]
  unfold fb padN
  rcases Nat.eq_zero_or_pos i with rfl | h
  · rfl
  · obtain ⟨k, rfl⟩ : ∃ k, i = k + 1 := ⟨i - 1, by omega⟩
    show at_ (zeros _) k = at_ (zeros 15) k
    rw [zeros_at, zeros_at]
theorem f_seal : sealN xk1 2 3 fb ≠ fb := fun e => by
  have h : at_ (blk (sealN xk1 2 3 fb) 0) 0 = at_ (blk fb 0) 0 := by rw [e]
  unfold sealN at h
  rw [vone_fixed, vtwo_fixed, sct_blk _ _ _ 32 0 (by omega), fb_first, enc_rkey, enc_rkey] at h
  have hf := f_unlike
  have h2 : at_ (jn (turn (rkey fk1) (jn (120 :: zeros 15) fm)) fm) 0 = 120 := h
  rw [h2] at hf
  cases hf
end Go.Proofs.YtpkeofioobmmoaaDoor
