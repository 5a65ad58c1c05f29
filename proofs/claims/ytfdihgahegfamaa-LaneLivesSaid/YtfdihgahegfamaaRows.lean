/-
  No cell of these rows narrows 'for every input' (looked for: loops, veiled, ifaces, maps, wideKeys, modest, calm, conditions, laid).
  DERIVED. THE GIVEN ROWS OF THIS SEAT. 9 by the template 'for every input the law returns true; each argument reads behind the call as it read before'; 0 by the template 'total and deterministic' (their statements: YtfdihgahegfamaaTotals.lean).
  GIVEN WITH THE SEED: the statements are not yours to turn. If you find one false, say at which input.
  Laid BY PROGRAM, IN A SANDBOX (cutbox-rows.mjs): the forced cells as the released guide's own fill.sh prints them over the translation a95f7803fc0fa45c… (all of the seat's roots in one cut). By AI agents, Wed Nov 11 2026. No macro, syntax, notation, axiom, sorry.
-/
import Derived.Test.YtfdihgahegfamaaChecked
import GoSem.Claim
import GoSem.ClaimJoined
import GoSem.ClaimMapViews
import Derived.JoinedTies
import Derived.KernelRfl
namespace Go.Proofs.Ytfdihgahegfamaa
/- THE CELL 'sum', in the pinned program and in every row, IS THE sha256 OF THE DUMP (.gsa) THAT YtfdihgahegfamaaProg.lean LOADS. Nothing in Lean hashes anything: it is a label: what it is worth is what the hold of that sum in a sandbox is worth. -/
noncomputable def Try.pinned : Pinned := { name := "ytfdihgahegfamaa", sum := "a95f7803fc0fa45cfb5717ceb804918224b66e488fe4df555abb4b3b1f6f024c", checked := Try.checked }
namespace Rows
def none {H : Type} : Left H := { results := [], args := [] }

/-- 'casematelaw09.RingLives': WHATEVER THE INPUT: true; the input reads as it did. -/
def ringLivesSpec : ChangeSpec := { name := "ringLives", fn := fun _ => fun
  | [d1, d2] => { results := [.lit (.bool true)], args := [d1, d2] }
  | _ => none }
def ringLivesRow : OpenClaim := { program := "ytfdihgahegfamaa", sum := "a95f7803fc0fa45cfb5717ceb804918224b66e488fe4df555abb4b3b1f6f024c", func := "casemate/casematelaw09.RingLives", spec := "ringLives", unfollowed := true, recurses := true, apart := false }
def RingLivesSaid : Prop := ringLivesRow.holds Try.pinned (OpenSpec.ofChange ringLivesSpec)

/-- ITS FALSE NEIGHBOUR: 'it returns false'. Refute it at one input. -/
def ringLivesWrong : ChangeSpec := { name := "ringLives", fn := fun _ => fun
  | [d1, d2] => { results := [.lit (.bool false)], args := [d1, d2] }
  | _ => none }
def RingLivesWrongFalsely : Prop := ringLivesRow.holds Try.pinned (OpenSpec.ofChange ringLivesWrong)

/-- 'casematelaw09.RingNobody': WHATEVER THE INPUT: true; the input reads as it did. -/
def ringNobodySpec : ChangeSpec := { name := "ringNobody", fn := fun _ => fun
  | [d1, d2] => { results := [.lit (.bool true)], args := [d1, d2] }
  | _ => none }
def ringNobodyRow : OpenClaim := { program := "ytfdihgahegfamaa", sum := "a95f7803fc0fa45cfb5717ceb804918224b66e488fe4df555abb4b3b1f6f024c", func := "casemate/casematelaw09.RingNobody", spec := "ringNobody", unfollowed := true, recurses := true, apart := false }
def RingNobodySaid : Prop := ringNobodyRow.holds Try.pinned (OpenSpec.ofChange ringNobodySpec)

/-- ITS FALSE NEIGHBOUR: 'it returns false'. Refute it at one input. -/
def ringNobodyWrong : ChangeSpec := { name := "ringNobody", fn := fun _ => fun
  | [d1, d2] => { results := [.lit (.bool false)], args := [d1, d2] }
  | _ => none }
def RingNobodyWrongFalsely : Prop := ringNobodyRow.holds Try.pinned (OpenSpec.ofChange ringNobodyWrong)

/-- 'casematelaw09.RingOrder': WHATEVER THE INPUT: true; the input reads as it did. -/
def ringOrderSpec : ChangeSpec := { name := "ringOrder", fn := fun _ => fun
  | [d1, d2, d3] => { results := [.lit (.bool true)], args := [d1, d2, d3] }
  | _ => none }
def ringOrderRow : OpenClaim := { program := "ytfdihgahegfamaa", sum := "a95f7803fc0fa45cfb5717ceb804918224b66e488fe4df555abb4b3b1f6f024c", func := "casemate/casematelaw09.RingOrder", spec := "ringOrder", unfollowed := true, recurses := true, apart := false }
def RingOrderSaid : Prop := ringOrderRow.holds Try.pinned (OpenSpec.ofChange ringOrderSpec)

/-- ITS FALSE NEIGHBOUR: 'it returns false'. Refute it at one input. -/
def ringOrderWrong : ChangeSpec := { name := "ringOrder", fn := fun _ => fun
  | [d1, d2, d3] => { results := [.lit (.bool false)], args := [d1, d2, d3] }
  | _ => none }
def RingOrderWrongFalsely : Prop := ringOrderRow.holds Try.pinned (OpenSpec.ofChange ringOrderWrong)

/-- 'casematelaw09.RingKinds': WHATEVER THE INPUT: true; the input reads as it did. -/
def ringKindsSpec : ChangeSpec := { name := "ringKinds", fn := fun _ => fun
  | [d1, d2] => { results := [.lit (.bool true)], args := [d1, d2] }
  | _ => none }
def ringKindsRow : OpenClaim := { program := "ytfdihgahegfamaa", sum := "a95f7803fc0fa45cfb5717ceb804918224b66e488fe4df555abb4b3b1f6f024c", func := "casemate/casematelaw09.RingKinds", spec := "ringKinds", unfollowed := true, recurses := true, apart := false }
def RingKindsSaid : Prop := ringKindsRow.holds Try.pinned (OpenSpec.ofChange ringKindsSpec)

/-- ITS FALSE NEIGHBOUR: 'it returns false'. Refute it at one input. -/
def ringKindsWrong : ChangeSpec := { name := "ringKinds", fn := fun _ => fun
  | [d1, d2] => { results := [.lit (.bool false)], args := [d1, d2] }
  | _ => none }
def RingKindsWrongFalsely : Prop := ringKindsRow.holds Try.pinned (OpenSpec.ofChange ringKindsWrong)

/-- 'casematelaw09.RingMaps': WHATEVER THE INPUT: true; the input reads as it did. -/
def ringMapsSpec : ChangeSpec := { name := "ringMaps", fn := fun _ => fun
  | [d1, d2] => { results := [.lit (.bool true)], args := [d1, d2] }
  | _ => none }
def ringMapsRow : OpenClaim := { program := "ytfdihgahegfamaa", sum := "a95f7803fc0fa45cfb5717ceb804918224b66e488fe4df555abb4b3b1f6f024c", func := "casemate/casematelaw09.RingMaps", spec := "ringMaps", unfollowed := true, recurses := true, apart := false }
def RingMapsSaid : Prop := ringMapsRow.holds Try.pinned (OpenSpec.ofChange ringMapsSpec)

/-- ITS FALSE NEIGHBOUR: 'it returns false'. Refute it at one input. -/
def ringMapsWrong : ChangeSpec := { name := "ringMaps", fn := fun _ => fun
  | [d1, d2] => { results := [.lit (.bool false)], args := [d1, d2] }
  | _ => none }
def RingMapsWrongFalsely : Prop := ringMapsRow.holds Try.pinned (OpenSpec.ofChange ringMapsWrong)

/-- 'casematelaw10.LaneLives': WHATEVER THE INPUT: true; the input reads as it did. -/
def laneLivesSpec : ChangeSpec := { name := "laneLives", fn := fun _ => fun
  | [d1, d2, d3, d4] => { results := [.lit (.bool true)], args := [d1, d2, d3, d4] }
  | _ => none }
def laneLivesRow : OpenClaim := { program := "ytfdihgahegfamaa", sum := "a95f7803fc0fa45cfb5717ceb804918224b66e488fe4df555abb4b3b1f6f024c", func := "casemate/casematelaw10.LaneLives", spec := "laneLives", apart := false }
def LaneLivesSaid : Prop := laneLivesRow.holds Try.pinned (OpenSpec.ofChange laneLivesSpec)

/-- ITS FALSE NEIGHBOUR: 'it returns false'. Refute it at one input. -/
def laneLivesWrong : ChangeSpec := { name := "laneLives", fn := fun _ => fun
  | [d1, d2, d3, d4] => { results := [.lit (.bool false)], args := [d1, d2, d3, d4] }
  | _ => none }
def LaneLivesWrongFalsely : Prop := laneLivesRow.holds Try.pinned (OpenSpec.ofChange laneLivesWrong)

/-- 'casematelaw10.LaneNobody': WHATEVER THE INPUT: true; the input reads as it did. -/
def laneNobodySpec : ChangeSpec := { name := "laneNobody", fn := fun _ => fun
  | [d1, d2] => { results := [.lit (.bool true)], args := [d1, d2] }
  | _ => none }
def laneNobodyRow : OpenClaim := { program := "ytfdihgahegfamaa", sum := "a95f7803fc0fa45cfb5717ceb804918224b66e488fe4df555abb4b3b1f6f024c", func := "casemate/casematelaw10.LaneNobody", spec := "laneNobody", apart := false }
def LaneNobodySaid : Prop := laneNobodyRow.holds Try.pinned (OpenSpec.ofChange laneNobodySpec)

/-- ITS FALSE NEIGHBOUR: 'it returns false'. Refute it at one input. -/
def laneNobodyWrong : ChangeSpec := { name := "laneNobody", fn := fun _ => fun
  | [d1, d2] => { results := [.lit (.bool false)], args := [d1, d2] }
  | _ => none }
def LaneNobodyWrongFalsely : Prop := laneNobodyRow.holds Try.pinned (OpenSpec.ofChange laneNobodyWrong)

/-- 'casematelaw10.LaneOrder': WHATEVER THE INPUT: true; the input reads as it did. -/
def laneOrderSpec : ChangeSpec := { name := "laneOrder", fn := fun _ => fun
  | [d] => { results := [.lit (.bool true)], args := [d] }
  | _ => none }
def laneOrderRow : OpenClaim := { program := "ytfdihgahegfamaa", sum := "a95f7803fc0fa45cfb5717ceb804918224b66e488fe4df555abb4b3b1f6f024c", func := "casemate/casematelaw10.LaneOrder", spec := "laneOrder", apart := false }
def LaneOrderSaid : Prop := laneOrderRow.holds Try.pinned (OpenSpec.ofChange laneOrderSpec)

/-- ITS FALSE NEIGHBOUR: 'it returns false'. Refute it at one input. -/
def laneOrderWrong : ChangeSpec := { name := "laneOrder", fn := fun _ => fun
  | [d] => { results := [.lit (.bool false)], args := [d] }
  | _ => none }
def LaneOrderWrongFalsely : Prop := laneOrderRow.holds Try.pinned (OpenSpec.ofChange laneOrderWrong)

/-- 'casematelaw10.LaneTurns': WHATEVER THE INPUT: true; the input reads as it did. -/
def laneTurnsSpec : ChangeSpec := { name := "laneTurns", fn := fun _ => fun
  | [d1, d2, d3] => { results := [.lit (.bool true)], args := [d1, d2, d3] }
  | _ => none }
def laneTurnsRow : OpenClaim := { program := "ytfdihgahegfamaa", sum := "a95f7803fc0fa45cfb5717ceb804918224b66e488fe4df555abb4b3b1f6f024c", func := "casemate/casematelaw10.LaneTurns", spec := "laneTurns", apart := false }
def LaneTurnsSaid : Prop := laneTurnsRow.holds Try.pinned (OpenSpec.ofChange laneTurnsSpec)

/-- ITS FALSE NEIGHBOUR: 'it returns false'. Refute it at one input. -/
def laneTurnsWrong : ChangeSpec := { name := "laneTurns", fn := fun _ => fun
  | [d1, d2, d3] => { results := [.lit (.bool false)], args := [d1, d2, d3] }
  | _ => none }
def LaneTurnsWrongFalsely : Prop := laneTurnsRow.holds Try.pinned (OpenSpec.ofChange laneTurnsWrong)

/- THE SECOND FORM. 'bulk': how many values and letters a reading holds, each counted each time it is reached (what is shared counts as often as it is met; a slice's spare places count too). A statement '..UptoSaid' is the law's where the arguments, and the package variables that the reading takes, are together of bulk at most 1048576: NARROWER than '..Said'. Prove '..Said' where nothing that the law and all that it calls make is longer than what came in: it says more and counts as full. Else prove '..UptoSaid'. A law counts once. -/
mutual
def uptoBulk {H : Type} : DataW H → Nat
  | .lit (.string bytes) => bytes.length + 1
  | .lit _ => 1
  | .nil => 1
  | .ptr d => uptoBulk d + 1
  | .slice elems spare => uptoBulkAll elems + uptoBulkAll spare + 1
  | .agg parts => uptoBulkAll parts + 1
  | .iface _ d => uptoBulk d + 1
  | .map entries => uptoBulkEntries entries + 1
  | .held _ => 1
def uptoBulkAll {H : Type} : List (DataW H) → Nat
  | [] => 0
  | d :: r => uptoBulk d + uptoBulkAll r
def uptoBulkEntries {H : Type} : List (Lit × DataW H) → Nat
  | [] => 0
  | x :: r => uptoBulkEntry x + uptoBulkEntries r
def uptoBulkEntry {H : Type} : Lit × DataW H → Nat
  | (.string bytes, d) => bytes.length + uptoBulk d + 1
  | (_, d) => uptoBulk d + 1
 end
def uptoSmall : (H : Type) → List (DataW H) → Bool := fun _ ds => decide (uptoBulkAll ds ≤ 1048576)
def OpenSpec.upto (s : _root_.Go.ChangeSpec) : _root_.Go.OpenSpec := { _root_.Go.OpenSpec.ofChange s with cond := some uptoSmall }

/-- 'casematelaw09.RingLives', WHERE WHAT IT READS IS OF BULK AT MOST 1048576: true; the input reads as it did. -/
def ringLivesUptoRow : OpenClaim := { program := "ytfdihgahegfamaa", sum := "a95f7803fc0fa45cfb5717ceb804918224b66e488fe4df555abb4b3b1f6f024c", func := "casemate/casematelaw09.RingLives", spec := "ringLives", unfollowed := true, recurses := true, apart := false, narrowed := true }
def RingLivesUptoSaid : Prop := ringLivesUptoRow.holds Try.pinned (OpenSpec.upto ringLivesSpec)

/-- 'casematelaw09.RingNobody', WHERE WHAT IT READS IS OF BULK AT MOST 1048576: true; the input reads as it did. -/
def ringNobodyUptoRow : OpenClaim := { program := "ytfdihgahegfamaa", sum := "a95f7803fc0fa45cfb5717ceb804918224b66e488fe4df555abb4b3b1f6f024c", func := "casemate/casematelaw09.RingNobody", spec := "ringNobody", unfollowed := true, recurses := true, apart := false, narrowed := true }
def RingNobodyUptoSaid : Prop := ringNobodyUptoRow.holds Try.pinned (OpenSpec.upto ringNobodySpec)

/-- 'casematelaw09.RingOrder', WHERE WHAT IT READS IS OF BULK AT MOST 1048576: true; the input reads as it did. -/
def ringOrderUptoRow : OpenClaim := { program := "ytfdihgahegfamaa", sum := "a95f7803fc0fa45cfb5717ceb804918224b66e488fe4df555abb4b3b1f6f024c", func := "casemate/casematelaw09.RingOrder", spec := "ringOrder", unfollowed := true, recurses := true, apart := false, narrowed := true }
def RingOrderUptoSaid : Prop := ringOrderUptoRow.holds Try.pinned (OpenSpec.upto ringOrderSpec)

/-- 'casematelaw09.RingKinds', WHERE WHAT IT READS IS OF BULK AT MOST 1048576: true; the input reads as it did. -/
def ringKindsUptoRow : OpenClaim := { program := "ytfdihgahegfamaa", sum := "a95f7803fc0fa45cfb5717ceb804918224b66e488fe4df555abb4b3b1f6f024c", func := "casemate/casematelaw09.RingKinds", spec := "ringKinds", unfollowed := true, recurses := true, apart := false, narrowed := true }
def RingKindsUptoSaid : Prop := ringKindsUptoRow.holds Try.pinned (OpenSpec.upto ringKindsSpec)

/-- 'casematelaw09.RingMaps', WHERE WHAT IT READS IS OF BULK AT MOST 1048576: true; the input reads as it did. -/
def ringMapsUptoRow : OpenClaim := { program := "ytfdihgahegfamaa", sum := "a95f7803fc0fa45cfb5717ceb804918224b66e488fe4df555abb4b3b1f6f024c", func := "casemate/casematelaw09.RingMaps", spec := "ringMaps", unfollowed := true, recurses := true, apart := false, narrowed := true }
def RingMapsUptoSaid : Prop := ringMapsUptoRow.holds Try.pinned (OpenSpec.upto ringMapsSpec)

/-- 'casematelaw10.LaneLives', WHERE WHAT IT READS IS OF BULK AT MOST 1048576: true; the input reads as it did. -/
def laneLivesUptoRow : OpenClaim := { program := "ytfdihgahegfamaa", sum := "a95f7803fc0fa45cfb5717ceb804918224b66e488fe4df555abb4b3b1f6f024c", func := "casemate/casematelaw10.LaneLives", spec := "laneLives", apart := false, narrowed := true }
def LaneLivesUptoSaid : Prop := laneLivesUptoRow.holds Try.pinned (OpenSpec.upto laneLivesSpec)

/-- 'casematelaw10.LaneNobody', WHERE WHAT IT READS IS OF BULK AT MOST 1048576: true; the input reads as it did. -/
def laneNobodyUptoRow : OpenClaim := { program := "ytfdihgahegfamaa", sum := "a95f7803fc0fa45cfb5717ceb804918224b66e488fe4df555abb4b3b1f6f024c", func := "casemate/casematelaw10.LaneNobody", spec := "laneNobody", apart := false, narrowed := true }
def LaneNobodyUptoSaid : Prop := laneNobodyUptoRow.holds Try.pinned (OpenSpec.upto laneNobodySpec)

/-- 'casematelaw10.LaneOrder', WHERE WHAT IT READS IS OF BULK AT MOST 1048576: true; the input reads as it did. -/
def laneOrderUptoRow : OpenClaim := { program := "ytfdihgahegfamaa", sum := "a95f7803fc0fa45cfb5717ceb804918224b66e488fe4df555abb4b3b1f6f024c", func := "casemate/casematelaw10.LaneOrder", spec := "laneOrder", apart := false, narrowed := true }
def LaneOrderUptoSaid : Prop := laneOrderUptoRow.holds Try.pinned (OpenSpec.upto laneOrderSpec)

/-- 'casematelaw10.LaneTurns', WHERE WHAT IT READS IS OF BULK AT MOST 1048576: true; the input reads as it did. -/
def laneTurnsUptoRow : OpenClaim := { program := "ytfdihgahegfamaa", sum := "a95f7803fc0fa45cfb5717ceb804918224b66e488fe4df555abb4b3b1f6f024c", func := "casemate/casematelaw10.LaneTurns", spec := "laneTurns", apart := false, narrowed := true }
def LaneTurnsUptoSaid : Prop := laneTurnsUptoRow.holds Try.pinned (OpenSpec.upto laneTurnsSpec)

end Rows
end Go.Proofs.Ytfdihgahegfamaa
