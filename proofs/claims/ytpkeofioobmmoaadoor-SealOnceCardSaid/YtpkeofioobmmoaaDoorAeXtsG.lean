/-
  Contracts of the functions that the statements of package xts go through: what must come of fixed calls. No condition.
-/
import Derived.Test.YtpkeofioobmmoaaDoorAeXtsF
namespace Go.Proofs.YtpkeofioobmmoaaDoor.ae
open Go.RowKit
set_option maxRecDepth 100000 in
theorem moreS {P : Program} {md : Region.Mode} {ops : Array Oper} {Q : Exit → Act → World → Prop} {S S' : World → Prop} (h : ∀ w, S' w → S w) :
    ∀ (fuel : Nat) (listed : Array Bool) (a : Act) (w : World), wpAnyH P md ops Q S' fuel listed a w → wpAnyH P md ops Q S fuel listed a w
  | 0, _, _, _, hh => hh
  | fuel + 1, _, _, _, hh => ⟨hh.1, fun i hi => wpOp_mono (fun a' w' h' => ⟨h w' h'.1, moreS h fuel _ a' w' h'.2⟩) (hh.2 i hi)⟩
set_option maxRecDepth 100000 in
theorem sl_to16 (q : Nat) (W : World) : (Instr.slice 49 (.slice (some ⟨q, 0, none⟩) 32 32) none (some (.int .i64 16)) none).run Tryd.prog W = .ok (.slice (some ⟨q, 0, none⟩) 16 32) W := by kernel_rfl
set_option maxRecDepth 100000 in
theorem sl_from16 (q : Nat) (W : World) : (Instr.slice 49 (.slice (some ⟨q, 0, none⟩) 32 32) (some (.int .i64 16)) none none).run Tryd.prog W = .ok (.slice (some ⟨q, 16, none⟩) 16 16) W := by
  have h := sl_from q 0 32 32 16 (by omega) (by omega) W
  exact h
end Go.Proofs.YtpkeofioobmmoaaDoor.ae
