/-
  Plain lemmas: arrays of bytes compared; rows that are filled one by one; what the fixed key and block come to. No condition.
-/
import Derived.Test.YtpkeofioobmmoaaGreatDoorAeAesV
import Derived.Stop.BytesEq
namespace Go.Proofs.YtpkeofioobmmoaaGreatDoor.ae
open Go.RowKit
def tobN (xs : List Nat) : List UInt8 := xs.map UInt8.ofNat
set_option maxRecDepth 100000 in
theorem u8inj {a b : Nat} (ha : a < 256) (hb : b < 256) (h : UInt8.ofNat a = UInt8.ofNat b) : a = b := by
  have := congrArg UInt8.toNat h
  simp at this
  omega
set_option maxRecDepth 100000 in
theorem tobN_inj : ∀ {xs ys : List Nat}, (∀ x ∈ xs, x < 256) → (∀ x ∈ ys, x < 256) → tobN xs = tobN ys → xs = ys
  | [], [], _, _, _ => rfl
  | [], _ :: _, _, _, h => by simp [tobN] at h
  | _ :: _, [], _, _, h => by simp [tobN] at h
  | x :: xs, y :: ys, hx, hy, h => by
    simp only [tobN, List.map_cons, List.cons.injEq] at h
    rw [u8inj (hx x (by simp)) (hy y (by simp)) h.1, tobN_inj (xs := xs) (ys := ys) (fun z hz => hx z (by simp [hz])) (fun z hz => hy z (by simp [hz])) h.2]
set_option maxRecDepth 100000 in
theorem cells_tobN (xs : List Nat) (h : ∀ x ∈ xs, x < 256) : ncells xs = ((tobN xs).map Extern.Stop.cell).toArray := by
  unfold ncells tobN
  rw [List.map_map]
  congr 1
  apply List.map_congr_left
  intro x hx
  have := h x hx
  simp only [Function.comp_def, Extern.Stop.cell]
  congr 1
  simp
  omega
set_option maxRecDepth 100000 in
theorem trn_congr {R R' : Nat → List Nat} (b : List Nat) (h : ∀ i, i ≤ 14 → R i = R' i) : ∀ n, n ≤ 14 → trn R b n = trn R' b n
  | 0, _ => by rw [trn, trn, h 0 (by omega)]
  | n + 1, hn => by rw [trn, trn, h (n + 1) hn, trn_congr b h n (by omega)]
set_option maxRecDepth 100000 in
theorem turn_congr {R R' : Nat → List Nat} (b : List Nat) (h : ∀ i, i ≤ 14 → R i = R' i) : turn R b = turn R' b := trn_congr b h 14 (by omega)
set_option maxRecDepth 100000 in
theorem turn_flat (key b : List Nat) : turn (rkf (flat key)) b = turn (rkey key) b := turn_congr b fun i hi => rkf_flat key i hi
/-- A block turned, and turned back, by a key. -/
def enc (key b : List Nat) : List Nat := turn (rkf (flat key)) b
def dec (key b : List Nat) : List Nat := back (rkf (flat key)) b
set_option maxRecDepth 100000 in
theorem enc_bts {key b : List Nat} (hk : Bts 32 key) (hb : Bts 16 b) : Bts 16 (enc key b) := turn_bts (rkf_bts (flat_bts hk)) hb
set_option maxRecDepth 100000 in
theorem dec_bts {key b : List Nat} (hk : Bts 32 key) (hb : Bts 16 b) : Bts 16 (dec key b) := back_bts (rkf_bts (flat_bts hk)) hb
set_option maxRecDepth 100000 in
theorem dec_enc {key b : List Nat} (hk : Bts 32 key) (hb : Bts 16 b) : dec key (enc key b) = b := back_turn (rkf_bts (flat_bts hk)) hb
set_option maxRecDepth 100000 in
theorem encC {key b : List Nat} (hk : Bts 32 key) (hb : Bts 16 b) (g : Nat) (w : World) (h : CIat w g (flat key)) :
    Calls Tryz.prog 59 #[.pointer (some ⟨g, 0, none⟩), .agg (ncells b)] w fun e w' => e = .returned (.agg (ncells (enc key b))) ∧ Below w.heap.size w w' :=
  turnC (flat key) b (flat_bts hk) hb g w (h.w (flat_bts hk).1) (h.b (flat_bts hk).1)
set_option maxRecDepth 100000 in
theorem decC {key b : List Nat} (hk : Bts 32 key) (hb : Bts 16 b) (g : Nat) (w : World) (h : CIat w g (flat key)) :
    Calls Tryz.prog 44 #[.pointer (some ⟨g, 0, none⟩), .agg (ncells b)] w fun e w' => e = .returned (.agg (ncells (dec key b))) ∧ Below w.heap.size w w' := by
  have := backC (flat key) kxs b (flat_bts hk) kxs_bts hb g w (h.w (flat_bts hk).1) (h.k (flat_bts hk).1)
  rw [backT_kxs] at this
  exact this
end Go.Proofs.YtpkeofioobmmoaaGreatDoor.ae
