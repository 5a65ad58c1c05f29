/-
  Plain lemmas: what the fixed keys, stamp and sector of the statements of package xts come to. No condition.
-/
import Derived.Test.YtpkeofioobmmoaaDoorAeXtsE
namespace Go.Proofs.YtpkeofioobmmoaaDoor.ae
open Go.RowKit
def xk1 : List Nat := 1 :: zeros 31
def xk2 : List Nat := 2 :: zeros 31
set_option maxRecDepth 100000 in
theorem xk1_bts : Bts 32 xk1 := ⟨by decide, by decide⟩
set_option maxRecDepth 100000 in
theorem xk2_bts : Bts 32 xk2 := ⟨by decide, by decide⟩
def xm0 : List Nat := turn (rkey xk2) (twk 5)
def xj (m : List Nat) : List Nat := jn (turn (rkey xk1) (jn (zeros 16) m)) m
set_option maxRecDepth 100000 in
theorem x_unlike : Nat.beq (at_ (xj xm0) 0) (at_ (xj (dbm xm0)) 0) = false := by decide +kernel
set_option maxRecDepth 100000 in
theorem enc_rkey (key b : List Nat) : enc key b = turn (rkey key) b := turn_flat key b
set_option maxRecDepth 100000 in
theorem blk_zeros (n k : Nat) : blk (zeros n) k = zeros 16 := by
  refine bts_ext' (tab_len _ _) (zeros_len 16) fun i hi => ?_
  rw [blk, tab_at _ _ _ hi, zeros_at, zeros_at]
/-- The fixed sector turned. -/
def xsec : List Nat := sct (enc xk1) (enc xk2 (twk 5)) (zeros 32) 2
set_option maxRecDepth 100000 in
theorem xsec_eq : xsec = xj xm0 ++ xj (dbm xm0) := by
  unfold xsec
  show ([] ++ jn (enc xk1 (jn (blk (zeros 32) 0) _)) _) ++ jn (enc xk1 (jn (blk (zeros 32) 1) _)) _ = _
  rw [blk_zeros, blk_zeros, List.nil_append, enc_rkey, enc_rkey, enc_rkey]
  rfl
set_option maxRecDepth 100000 in
theorem xsec_byt : Byt xsec := sct_bts (fun _ h => enc_bts xk1_bts h) (enc_bts xk2_bts (twk_bts 5)) (zeros_byt 32) 2
set_option maxRecDepth 100000 in
theorem xsec_len : xsec.length = 32 := sct_len _ _ _ 2
set_option maxRecDepth 100000 in
theorem xsec_unlike : xsec.take 16 ≠ xsec.drop 16 := by
  rw [xsec_eq]
  have l0 : (xj xm0).length = 16 := tab_len _ _
  rw [show (16 : Nat) = (xj xm0).length from l0.symm, List.take_left, List.drop_left]
  intro h
  have := x_unlike
  rw [h] at this
  simp at this
set_option maxRecDepth 100000 in
theorem dbm_fixed : dbm (zeros 15 ++ [128]) = 135 :: zeros 15 := by decide
set_option maxRecDepth 100000 in
theorem xsec_back : sct (dec xk1) (enc xk2 (twk 5)) xsec 2 = zeros 32 :=
  sct_back (n := 2) (enc_bts xk2_bts (twk_bts 5)) (zeros_len 32) (zeros_byt 32) (fun _ h => enc_bts xk1_bts h) (fun _ h => dec_enc xk1_bts h)
set_option maxRecDepth 100000 in
theorem build23a : ∀ w, (Instr.build 38 #[(0, .int .u8 1)]).run Tryd.prog w = .ok (.agg (ncells xk1)) w := fun _ => by kernel_rfl
set_option maxRecDepth 100000 in
theorem build23b : ∀ w, (Instr.build 38 #[(0, .int .u8 2)]).run Tryd.prog w = .ok (.agg (ncells xk2)) w := fun _ => by kernel_rfl
set_option maxRecDepth 100000 in
theorem build37a : ∀ w, (Instr.build 91 #[(15, .int .u8 128)]).run Tryd.prog w = .ok (.agg (ncells (zeros 15 ++ [128]))) w := fun _ => by kernel_rfl
set_option maxRecDepth 100000 in
theorem build37b : ∀ w, (Instr.build 91 #[(0, .int .u8 135)]).run Tryd.prog w = .ok (.agg (ncells (135 :: zeros 15))) w := fun _ => by kernel_rfl
end Go.Proofs.YtpkeofioobmmoaaDoor.ae
