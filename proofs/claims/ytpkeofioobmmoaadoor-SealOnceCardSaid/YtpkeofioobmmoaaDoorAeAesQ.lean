/-
  Plain lemmas: arrays of bytes compared; rows that are filled one by one; what the fixed key and block come to. No condition.
-/
import Derived.Test.YtpkeofioobmmoaaDoorAeAesV
import Derived.Stop.BytesEq
namespace Go.Proofs.YtpkeofioobmmoaaDoor.ae
open Go.RowKit
def tobN (xs : List Nat) : List UInt8 := xs.map UInt8.ofNat
set_option maxRecDepth 100000 in
theorem u8inj {a b : Nat} (ha : a < 256) (hb : b < 256) (h : UInt8.ofNat a = UInt8.ofNat b) : a = b := by
  have := congrArg UInt8.toNat h
  simp at this
  omega
set_option maxRecDepth 100000 in
theorem tobN_inj : ∀ {xs ys : List Nat}, (∀ x ∈ xs, x < 256) → (∀ x ∈ ys, x < 256) → tobN xs = tobN ys → xs = ys
  | [], [], _, _, _ => rfl
  | [], _ :: _, _, _, h => by simp [tobN] at h
  | _ :: _, [], _, _, h => by simp [tobN] at h
  | x :: xs, y :: ys, hx, hy, h => by
    simp only [tobN, List.map_cons, List.cons.injEq] at h
    rw [u8inj (hx x (by simp)) (hy y (by simp)) h.1, tobN_inj (xs := xs) (ys := ys) (fun z hz => hx z (by simp [hz])) (fun z hz => hy z (by simp [hz])) h.2]
set_option maxRecDepth 100000 in
theorem cells_tobN (xs : List Nat) (h : ∀ x ∈ xs, x < 256) : ncells xs = ((tobN xs).map Extern.Stop.cell).toArray := by
  unfold ncells tobN
  rw [List.map_map]
  congr 1
  apply List.map_congr_left
  intro x hx
  have := h x hx
  simp only [Function.comp_def, Extern.Stop.cell]
  congr 1
  simp
  omega
set_option maxRecDepth 100000 in
theorem eqb (d : Nat) (t : TypeId) (n : Nat) (ht : Tryd.prog.underlying t = some (.array n 5)) (a b : List Nat) (ha : Bts n a) (hb : Bts n b) (w : World) :
    (Op.equalIn (d + 2) t (.agg (ncells a)) (.agg (ncells b))).run Tryd.prog w = .ok (decide (a = b)) w := by
  have h := run_equalIn_bytes (P := Tryd.prog) w d t 5 n ht Tryd.underlying5 (fun _ => by kernel_rfl) (tobN a) (tobN b) (by simp [tobN, ha.1]) (by simp [tobN, hb.1])
  rw [← cells_tobN a ha.2, ← cells_tobN b hb.2] at h
  rw [h]
  congr 1
  by_cases e : a = b
  · subst e; simp
  · have : tobN a ≠ tobN b := fun h => e (tobN_inj ha.2 hb.2 h)
    simp [e, this]
set_option maxRecDepth 100000 in
theorem eq37 (a b : List Nat) (ha : Bts 16 a) (hb : Bts 16 b) (w : World) : (Op.equalIn 10000 91 (.agg (ncells a)) (.agg (ncells b))).run Tryd.prog w = .ok (decide (a = b)) w := eqb 9998 91 16 (by kernel_rfl) a b ha hb w
set_option maxRecDepth 100000 in
theorem eq23 (a b : List Nat) (ha : Bts 32 a) (hb : Bts 32 b) (w : World) : (Op.equalIn 10000 38 (.agg (ncells a)) (.agg (ncells b))).run Tryd.prog w = .ok (decide (a = b)) w := eqb 9998 38 32 (by kernel_rfl) a b ha hb w
set_option maxRecDepth 100000 in
theorem sub4 {l : List Nat} (h : Bts 240 l) (i : Nat) (hi : i < 60) : Bts 4 ((l.drop (i * 4)).take 4) := ⟨by rw [List.length_take, List.length_drop, h.1]; omega, fun x hx => h.2 x (List.mem_of_mem_drop (List.mem_of_mem_take hx))⟩
set_option maxRecDepth 100000 in
theorem part4 (l : List Nat) (i : Nat) (w : World) : (part 110 (ncells l) (i * 4)).run Tryd.prog w = .ok (.agg (ncells ((l.drop (i * 4)).take 4))) w := by
  have hs : (sizeOf 110).run Tryd.prog w = .ok 4 w := by kernel_rfl
  have ha : (isAgg 110).run Tryd.prog w = .ok true w := by kernel_rfl
  unfold part
  simp only [Sem.run_bind, ha, hs, Result.andThen_ok, if_true, Sem.run_pure]
  congr 2
  unfold ncells
  apply Array.toList_inj.1
  simp [List.extract, List.map_take, List.map_drop]
set_option maxRecDepth 100000 in
theorem eq30 (l : List Nat) (h : Bts 240 l) (w : World) : (Op.equalIn 10000 111 (.agg (ncells l)) (.agg (ncells l))).run Tryd.prog w = .ok true w := by
  have ht : Tryd.prog.underlying 111 = some (.array 60 110) := by kernel_rfl
  have hsz : ∀ w, (sizeOf 110).run Tryd.prog w = .ok 4 w := fun _ => by kernel_rfl
  have e : ∀ i, i < 60 → (Op.equalIn 9999 110 (.agg (ncells ((l.drop (i * 4)).take 4))) (.agg (ncells ((l.drop (i * 4)).take 4)))).run Tryd.prog w = .ok true w := fun i hi => by
    have := eqb 9997 110 4 (by kernel_rfl) _ _ (sub4 h i hi) (sub4 h i hi) w
    simpa using this
  rw [show (10000 : Nat) = 9999 + 1 from rfl, Op.equalIn]
  simp only [Sem.run_bind, run_underlying ht, Result.andThen_ok, hsz, Std.Legacy.Range.forIn_eq_forIn_range', Std.Legacy.Range.size, Nat.sub_zero, Nat.add_sub_cancel, Nat.div_one]
  have hl : ∀ i ∈ List.range' 0 60 1, i < 60 := fun i hi => by simpa using (List.mem_range'_1.1 hi).2
  generalize List.range' 0 60 1 = q at hl ⊢
  induction q with
  | nil => simp
  | cons i q ih =>
    have hi : i < 60 := hl i (by simp)
    simp only [List.forIn_cons, Sem.run_bind, part4, e i hi, Result.andThen_ok, Bool.not_true, Bool.false_eq_true, if_false, Sem.run_pure]
    exact ih fun j hj => hl j (by simp [hj])
/-- A row filled with the numbers f, so far. -/
def fillr (n : Nat) (f : Nat → Nat) (i : Nat) : List Nat := tab n fun j => if j < i then f j else 0
set_option maxRecDepth 100000 in
theorem fillr_len (n : Nat) (f : Nat → Nat) (i : Nat) : (fillr n f i).length = n := tab_len _ _
set_option maxRecDepth 100000 in
theorem fillr_zero (n : Nat) (f : Nat → Nat) : fillr n f 0 = zeros n := by
  refine bts_ext' (fillr_len n f 0) (zeros_len n) fun i hi => ?_
  rw [fillr, tab_at _ _ _ hi, if_neg (by omega), zeros_at]
set_option maxRecDepth 100000 in
theorem fillr_all (n : Nat) (f : Nat → Nat) : fillr n f n = tab n f := tab_congr fun j hj => by rw [if_pos hj]
set_option maxRecDepth 100000 in
theorem fillr_set (n : Nat) (f : Nat → Nat) (i : Nat) : (ncells (fillr n f i)).setIfInBounds i (.int .u8 (f i : Nat)) = ncells (fillr n f (i + 1)) := by
  rw [nset]
  congr 1
  apply List.ext_getElem
  · rw [List.length_set, fillr_len, fillr_len]
  · intro j h1 h2
    rw [List.getElem_set]
    simp only [fillr, tab, List.getElem_map, List.getElem_range]
    by_cases e : i = j
    · subst e; rw [if_pos rfl, if_pos (by omega)]
    · rw [if_neg e]
      by_cases c : j < i
      · rw [if_pos c, if_pos (by omega)]
      · rw [if_neg c, if_neg (by omega)]
set_option maxRecDepth 100000 in
theorem trn_congr {R R' : Nat → List Nat} (b : List Nat) (h : ∀ i, i ≤ 14 → R i = R' i) : ∀ n, n ≤ 14 → trn R b n = trn R' b n
  | 0, _ => by rw [trn, trn, h 0 (by omega)]
  | n + 1, hn => by rw [trn, trn, h (n + 1) hn, trn_congr b h n (by omega)]
set_option maxRecDepth 100000 in
theorem turn_congr {R R' : Nat → List Nat} (b : List Nat) (h : ∀ i, i ≤ 14 → R i = R' i) : turn R b = turn R' b := trn_congr b h 14 (by omega)
set_option maxRecDepth 100000 in
theorem turn_flat (key b : List Nat) : turn (rkf (flat key)) b = turn (rkey key) b := turn_congr b fun i hi => rkf_flat key i hi
/-- A block turned, and turned back, by a key. -/
def enc (key b : List Nat) : List Nat := turn (rkf (flat key)) b
def dec (key b : List Nat) : List Nat := back (rkf (flat key)) b
set_option maxRecDepth 100000 in
theorem enc_bts {key b : List Nat} (hk : Bts 32 key) (hb : Bts 16 b) : Bts 16 (enc key b) := turn_bts (rkf_bts (flat_bts hk)) hb
set_option maxRecDepth 100000 in
theorem dec_bts {key b : List Nat} (hk : Bts 32 key) (hb : Bts 16 b) : Bts 16 (dec key b) := back_bts (rkf_bts (flat_bts hk)) hb
set_option maxRecDepth 100000 in
theorem dec_enc {key b : List Nat} (hk : Bts 32 key) (hb : Bts 16 b) : dec key (enc key b) = b := back_turn (rkf_bts (flat_bts hk)) hb
set_option maxRecDepth 100000 in
theorem enc_dec {key b : List Nat} (hk : Bts 32 key) (hb : Bts 16 b) : enc key (dec key b) = b := turn_back (rkf_bts (flat_bts hk)) hb
set_option maxRecDepth 100000 in
theorem enc_fixed : at_ (enc fkey fblk) 0 = 142 ∧ at_ (enc fkey fblk) 1 = 162 ∧ at_ (enc fkey fblk) 2 = 183 ∧ at_ (enc fkey fblk) 3 = 202 := by
  unfold enc; rw [turn_flat]; exact fixed
set_option maxRecDepth 100000 in
theorem encC {key b : List Nat} (hk : Bts 32 key) (hb : Bts 16 b) (g : Nat) (w : World) (h : CIat w g (flat key)) :
    Calls Tryd.prog 52 #[.pointer (some ⟨g, 0, none⟩), .agg (ncells b)] w fun e w' => e = .returned (.agg (ncells (enc key b))) ∧ Below w.heap.size w w' :=
  turnC (flat key) b (flat_bts hk) hb g w (h.w (flat_bts hk).1) (h.b (flat_bts hk).1)
set_option maxRecDepth 100000 in
theorem decC {key b : List Nat} (hk : Bts 32 key) (hb : Bts 16 b) (g : Nat) (w : World) (h : CIat w g (flat key)) :
    Calls Tryd.prog 65 #[.pointer (some ⟨g, 0, none⟩), .agg (ncells b)] w fun e w' => e = .returned (.agg (ncells (dec key b))) ∧ Below w.heap.size w w' := by
  have := backC (flat key) kxs b (flat_bts hk) kxs_bts hb g w (h.w (flat_bts hk).1) (h.k (flat_bts hk).1)
  rw [backT_kxs] at this
  exact this
end Go.Proofs.YtpkeofioobmmoaaDoor.ae
