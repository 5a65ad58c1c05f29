/-
  Lemmas for regions that draw their order and read what their own calls make; an array of 32 bytes as a slice. No condition.
-/
import Derived.Test.YtmkaagiabafooaaDoorRefF
import Derived.Test.YtmkaagiabafooaaDoorAlive
import Derived.Deep.RegionHeld
namespace Go.Proofs.YtmkaagiabafooaaDoor
open Go.RowKit
theorem more {P : Program} {md : Region.Mode} {ops : Array Oper} {Q : Exit → Act → World → Prop} {S S' : World → Prop} (h : ∀ w, S' w → S w) :
    ∀ (fuel : Nat) (listed : Array Bool) (a : Act) (w : World), wpAnyH P md ops Q S' fuel listed a w → wpAnyH P md ops Q S fuel listed a w
  | 0, _, _, _, hh => hh
  | fuel + 1, _, _, _, hh => ⟨hh.1, fun i hi => wpOp_mono (fun a' w' h' => ⟨h w' h'.1, more h fuel _ a' w' h'.2⟩) (hh.2 i hi)⟩
theorem sees27 {w : World} {g : Nat} {xs : List Int} (h : Row27 w g xs) (hl : xs.length = 32) (hb : Byt xs) : Sees w (.slice (some ⟨g, 0, none⟩) 32 32) xs :=
  ⟨hb, .inr (.inr ⟨g, 0, 32, by rw [hl], fun e => by rw [e] at hl; simp at hl, by omega, by decide, fun i hi => by rw [Nat.zero_add]; exact h.cell i hi⟩)⟩
theorem all27 (W : World) (g : Nat) : (Instr.sliceAt 27 (.pointer (some ⟨g, 0, none⟩)) none none none).run Tryd.prog W = .ok (.slice (some ⟨g, 0, none⟩) 32 32) W := by kernel_rfl
theorem seesL_byt {w : World} {v : Value} {xss : List (List Int)} (h : SeesL w v xss) : Byt xss.flatten := by
  rcases h with ⟨_, _, _, rfl⟩ | ⟨b, o, cap, _, _, hc⟩
  · exact fun x h => by simp at h
  · intro x hx
    obtain ⟨l, hl, hxl⟩ := List.mem_flatten.1 hx
    obtain ⟨i, hi, rfl⟩ := List.getElem_of_mem hl
    obtain ⟨u, _, hs⟩ := hc i hi
    have e : xss.getD i [] = xss[i] := by simp [List.getD, hi]
    rw [e] at hs
    exact hs.1 x hxl
end Go.Proofs.YtmkaagiabafooaaDoor
