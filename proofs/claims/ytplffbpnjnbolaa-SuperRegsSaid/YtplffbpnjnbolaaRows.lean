/-
  No cell of these rows narrows 'for every input' (looked for: loops, veiled, ifaces, maps, wideKeys, modest, calm, conditions, laid).
  DERIVED. THE GIVEN ROWS OF THIS SEAT. 8 by the template 'for every input the law returns true; each argument reads behind the call as it read before'; 0 by the template 'total and deterministic' (their statements: YtplffbpnjnbolaaTotals.lean).
  GIVEN WITH THE SEED: the statements are not yours to turn. If you find one false, say at which input.
  Laid BY PROGRAM, IN A SANDBOX (cutbox-rows.mjs): the forced cells as the released guide's own fill.sh prints them over the translation f12e6210b9aee492… (all of the seat's roots in one cut). By AI agents, Wed Nov 11 2026. No macro, syntax, notation, axiom, sorry.
-/
import Derived.Test.YtplffbpnjnbolaaChecked
import GoSem.Claim
import GoSem.ClaimJoined
import GoSem.ClaimMapViews
import Derived.JoinedTies
import Derived.KernelRfl
namespace Go.Proofs.Ytplffbpnjnbolaa
/- THE CELL 'sum', in the pinned program and in every row, IS THE sha256 OF THE DUMP (.gsa) THAT YtplffbpnjnbolaaProg.lean LOADS. Nothing in Lean hashes anything: it is a label: what it is worth is what the hold of that sum in a sandbox is worth. -/
noncomputable def Try.pinned : Pinned := { name := "ytplffbpnjnbolaa", sum := "f12e6210b9aee4920e1fbeb6e57ee3efa6cbaafced75226e37421d2c8177ca77", checked := Try.checked }
namespace Rows
def none {H : Type} : Left H := { results := [], args := [] }

/-- 'casematelaw19.SuperHeads': WHATEVER THE INPUT: true; the input reads as it did. -/
def superHeadsSpec : ChangeSpec := { name := "superHeads", fn := fun _ => fun
  | [d1, d2] => { results := [.lit (.bool true)], args := [d1, d2] }
  | _ => none }
def superHeadsRow : OpenClaim := { program := "ytplffbpnjnbolaa", sum := "f12e6210b9aee4920e1fbeb6e57ee3efa6cbaafced75226e37421d2c8177ca77", func := "casemate/casematelaw19.SuperHeads", spec := "superHeads", apart := false }
def SuperHeadsSaid : Prop := superHeadsRow.holds Try.pinned (OpenSpec.ofChange superHeadsSpec)

/-- ITS FALSE NEIGHBOUR: 'it returns false'. Refute it at one input. -/
def superHeadsWrong : ChangeSpec := { name := "superHeads", fn := fun _ => fun
  | [d1, d2] => { results := [.lit (.bool false)], args := [d1, d2] }
  | _ => none }
def SuperHeadsWrongFalsely : Prop := superHeadsRow.holds Try.pinned (OpenSpec.ofChange superHeadsWrong)

/-- 'casematelaw19.SuperRegs': WHATEVER THE INPUT: true; the input reads as it did. -/
def superRegsSpec : ChangeSpec := { name := "superRegs", fn := fun _ => fun
  | [d1, d2] => { results := [.lit (.bool true)], args := [d1, d2] }
  | _ => none }
def superRegsRow : OpenClaim := { program := "ytplffbpnjnbolaa", sum := "f12e6210b9aee4920e1fbeb6e57ee3efa6cbaafced75226e37421d2c8177ca77", func := "casemate/casematelaw19.SuperRegs", spec := "superRegs", apart := false }
def SuperRegsSaid : Prop := superRegsRow.holds Try.pinned (OpenSpec.ofChange superRegsSpec)

/-- ITS FALSE NEIGHBOUR: 'it returns false'. Refute it at one input. -/
def superRegsWrong : ChangeSpec := { name := "superRegs", fn := fun _ => fun
  | [d1, d2] => { results := [.lit (.bool false)], args := [d1, d2] }
  | _ => none }
def SuperRegsWrongFalsely : Prop := superRegsRow.holds Try.pinned (OpenSpec.ofChange superRegsWrong)

/-- 'casematelaw19.SuperBack': WHATEVER THE INPUT: true; the input reads as it did. -/
def superBackSpec : ChangeSpec := { name := "superBack", fn := fun _ => fun
  | [d1, d2] => { results := [.lit (.bool true)], args := [d1, d2] }
  | _ => none }
def superBackRow : OpenClaim := { program := "ytplffbpnjnbolaa", sum := "f12e6210b9aee4920e1fbeb6e57ee3efa6cbaafced75226e37421d2c8177ca77", func := "casemate/casematelaw19.SuperBack", spec := "superBack", apart := false }
def SuperBackSaid : Prop := superBackRow.holds Try.pinned (OpenSpec.ofChange superBackSpec)

/-- ITS FALSE NEIGHBOUR: 'it returns false'. Refute it at one input. -/
def superBackWrong : ChangeSpec := { name := "superBack", fn := fun _ => fun
  | [d1, d2] => { results := [.lit (.bool false)], args := [d1, d2] }
  | _ => none }
def SuperBackWrongFalsely : Prop := superBackRow.holds Try.pinned (OpenSpec.ofChange superBackWrong)

/-- 'casematelaw19.SuperRegBack': WHATEVER THE INPUT: true; the input reads as it did. -/
def superRegBackSpec : ChangeSpec := { name := "superRegBack", fn := fun _ => fun
  | [d1, d2] => { results := [.lit (.bool true)], args := [d1, d2] }
  | _ => none }
def superRegBackRow : OpenClaim := { program := "ytplffbpnjnbolaa", sum := "f12e6210b9aee4920e1fbeb6e57ee3efa6cbaafced75226e37421d2c8177ca77", func := "casemate/casematelaw19.SuperRegBack", spec := "superRegBack", apart := false }
def SuperRegBackSaid : Prop := superRegBackRow.holds Try.pinned (OpenSpec.ofChange superRegBackSpec)

/-- ITS FALSE NEIGHBOUR: 'it returns false'. Refute it at one input. -/
def superRegBackWrong : ChangeSpec := { name := "superRegBack", fn := fun _ => fun
  | [d1, d2] => { results := [.lit (.bool false)], args := [d1, d2] }
  | _ => none }
def SuperRegBackWrongFalsely : Prop := superRegBackRow.holds Try.pinned (OpenSpec.ofChange superRegBackWrong)

/-- 'casematelaw20.SlotBytes': WHATEVER THE INPUT: true; the input reads as it did. -/
def slotBytesSpec : ChangeSpec := { name := "slotBytes", fn := fun _ => fun
  | [d1, d2] => { results := [.lit (.bool true)], args := [d1, d2] }
  | _ => none }
def slotBytesRow : OpenClaim := { program := "ytplffbpnjnbolaa", sum := "f12e6210b9aee4920e1fbeb6e57ee3efa6cbaafced75226e37421d2c8177ca77", func := "casemate/casematelaw20.SlotBytes", spec := "slotBytes", apart := false }
def SlotBytesSaid : Prop := slotBytesRow.holds Try.pinned (OpenSpec.ofChange slotBytesSpec)

/-- ITS FALSE NEIGHBOUR: 'it returns false'. Refute it at one input. -/
def slotBytesWrong : ChangeSpec := { name := "slotBytes", fn := fun _ => fun
  | [d1, d2] => { results := [.lit (.bool false)], args := [d1, d2] }
  | _ => none }
def SlotBytesWrongFalsely : Prop := slotBytesRow.holds Try.pinned (OpenSpec.ofChange slotBytesWrong)

/-- 'casematelaw20.SlotPlaces': WHATEVER THE INPUT: true; the input reads as it did. -/
def slotPlacesSpec : ChangeSpec := { name := "slotPlaces", fn := fun _ => fun
  | [d1, d2] => { results := [.lit (.bool true)], args := [d1, d2] }
  | _ => none }
def slotPlacesRow : OpenClaim := { program := "ytplffbpnjnbolaa", sum := "f12e6210b9aee4920e1fbeb6e57ee3efa6cbaafced75226e37421d2c8177ca77", func := "casemate/casematelaw20.SlotPlaces", spec := "slotPlaces", apart := false }
def SlotPlacesSaid : Prop := slotPlacesRow.holds Try.pinned (OpenSpec.ofChange slotPlacesSpec)

/-- ITS FALSE NEIGHBOUR: 'it returns false'. Refute it at one input. -/
def slotPlacesWrong : ChangeSpec := { name := "slotPlaces", fn := fun _ => fun
  | [d1, d2] => { results := [.lit (.bool false)], args := [d1, d2] }
  | _ => none }
def SlotPlacesWrongFalsely : Prop := slotPlacesRow.holds Try.pinned (OpenSpec.ofChange slotPlacesWrong)

/-- 'casematelaw20.SlotBack': WHATEVER THE INPUT: true; the input reads as it did. -/
def slotBackSpec : ChangeSpec := { name := "slotBack", fn := fun _ => fun
  | [d1, d2, d3] => { results := [.lit (.bool true)], args := [d1, d2, d3] }
  | _ => none }
def slotBackRow : OpenClaim := { program := "ytplffbpnjnbolaa", sum := "f12e6210b9aee4920e1fbeb6e57ee3efa6cbaafced75226e37421d2c8177ca77", func := "casemate/casematelaw20.SlotBack", spec := "slotBack", apart := false }
def SlotBackSaid : Prop := slotBackRow.holds Try.pinned (OpenSpec.ofChange slotBackSpec)

/-- ITS FALSE NEIGHBOUR: 'it returns false'. Refute it at one input. -/
def slotBackWrong : ChangeSpec := { name := "slotBack", fn := fun _ => fun
  | [d1, d2, d3] => { results := [.lit (.bool false)], args := [d1, d2, d3] }
  | _ => none }
def SlotBackWrongFalsely : Prop := slotBackRow.holds Try.pinned (OpenSpec.ofChange slotBackWrong)

/-- 'casematelaw20.SlotApart': WHATEVER THE INPUT: true; the input reads as it did. -/
def slotApartSpec : ChangeSpec := { name := "slotApart", fn := fun _ => fun
  | [d1, d2, d3, d4] => { results := [.lit (.bool true)], args := [d1, d2, d3, d4] }
  | _ => none }
def slotApartRow : OpenClaim := { program := "ytplffbpnjnbolaa", sum := "f12e6210b9aee4920e1fbeb6e57ee3efa6cbaafced75226e37421d2c8177ca77", func := "casemate/casematelaw20.SlotApart", spec := "slotApart", apart := false }
def SlotApartSaid : Prop := slotApartRow.holds Try.pinned (OpenSpec.ofChange slotApartSpec)

/-- ITS FALSE NEIGHBOUR: 'it returns false'. Refute it at one input. -/
def slotApartWrong : ChangeSpec := { name := "slotApart", fn := fun _ => fun
  | [d1, d2, d3, d4] => { results := [.lit (.bool false)], args := [d1, d2, d3, d4] }
  | _ => none }
def SlotApartWrongFalsely : Prop := slotApartRow.holds Try.pinned (OpenSpec.ofChange slotApartWrong)

/- THE SECOND FORM. 'bulk': how many values and letters a reading holds, each counted each time it is reached (what is shared counts as often as it is met; a slice's spare places count too). A statement '..UptoSaid' is the law's where the arguments, and the package variables that the reading takes, are together of bulk at most 1048576: NARROWER than '..Said'. Prove '..Said' where nothing that the law and all that it calls make is longer than what came in: it says more and counts as full. Else prove '..UptoSaid'. A law counts once. -/
mutual
def uptoBulk {H : Type} : DataW H → Nat
  | .lit (.string bytes) => bytes.length + 1
  | .lit _ => 1
  | .nil => 1
  | .ptr d => uptoBulk d + 1
  | .slice elems spare => uptoBulkAll elems + uptoBulkAll spare + 1
  | .agg parts => uptoBulkAll parts + 1
  | .iface _ d => uptoBulk d + 1
  | .map entries => uptoBulkEntries entries + 1
  | .held _ => 1
def uptoBulkAll {H : Type} : List (DataW H) → Nat
  | [] => 0
  | d :: r => uptoBulk d + uptoBulkAll r
def uptoBulkEntries {H : Type} : List (Lit × DataW H) → Nat
  | [] => 0
  | x :: r => uptoBulkEntry x + uptoBulkEntries r
def uptoBulkEntry {H : Type} : Lit × DataW H → Nat
  | (.string bytes, d) => bytes.length + uptoBulk d + 1
  | (_, d) => uptoBulk d + 1
 end
def uptoSmall : (H : Type) → List (DataW H) → Bool := fun _ ds => decide (uptoBulkAll ds ≤ 1048576)
def OpenSpec.upto (s : _root_.Go.ChangeSpec) : _root_.Go.OpenSpec := { _root_.Go.OpenSpec.ofChange s with cond := some uptoSmall }

/-- 'casematelaw19.SuperHeads', WHERE WHAT IT READS IS OF BULK AT MOST 1048576: true; the input reads as it did. -/
def superHeadsUptoRow : OpenClaim := { program := "ytplffbpnjnbolaa", sum := "f12e6210b9aee4920e1fbeb6e57ee3efa6cbaafced75226e37421d2c8177ca77", func := "casemate/casematelaw19.SuperHeads", spec := "superHeads", apart := false, narrowed := true }
def SuperHeadsUptoSaid : Prop := superHeadsUptoRow.holds Try.pinned (OpenSpec.upto superHeadsSpec)

/-- 'casematelaw19.SuperRegs', WHERE WHAT IT READS IS OF BULK AT MOST 1048576: true; the input reads as it did. -/
def superRegsUptoRow : OpenClaim := { program := "ytplffbpnjnbolaa", sum := "f12e6210b9aee4920e1fbeb6e57ee3efa6cbaafced75226e37421d2c8177ca77", func := "casemate/casematelaw19.SuperRegs", spec := "superRegs", apart := false, narrowed := true }
def SuperRegsUptoSaid : Prop := superRegsUptoRow.holds Try.pinned (OpenSpec.upto superRegsSpec)

/-- 'casematelaw19.SuperBack', WHERE WHAT IT READS IS OF BULK AT MOST 1048576: true; the input reads as it did. -/
def superBackUptoRow : OpenClaim := { program := "ytplffbpnjnbolaa", sum := "f12e6210b9aee4920e1fbeb6e57ee3efa6cbaafced75226e37421d2c8177ca77", func := "casemate/casematelaw19.SuperBack", spec := "superBack", apart := false, narrowed := true }
def SuperBackUptoSaid : Prop := superBackUptoRow.holds Try.pinned (OpenSpec.upto superBackSpec)

/-- 'casematelaw19.SuperRegBack', WHERE WHAT IT READS IS OF BULK AT MOST 1048576: true; the input reads as it did. -/
def superRegBackUptoRow : OpenClaim := { program := "ytplffbpnjnbolaa", sum := "f12e6210b9aee4920e1fbeb6e57ee3efa6cbaafced75226e37421d2c8177ca77", func := "casemate/casematelaw19.SuperRegBack", spec := "superRegBack", apart := false, narrowed := true }
def SuperRegBackUptoSaid : Prop := superRegBackUptoRow.holds Try.pinned (OpenSpec.upto superRegBackSpec)

/-- 'casematelaw20.SlotBytes', WHERE WHAT IT READS IS OF BULK AT MOST 1048576: true; the input reads as it did. -/
def slotBytesUptoRow : OpenClaim := { program := "ytplffbpnjnbolaa", sum := "f12e6210b9aee4920e1fbeb6e57ee3efa6cbaafced75226e37421d2c8177ca77", func := "casemate/casematelaw20.SlotBytes", spec := "slotBytes", apart := false, narrowed := true }
def SlotBytesUptoSaid : Prop := slotBytesUptoRow.holds Try.pinned (OpenSpec.upto slotBytesSpec)

/-- 'casematelaw20.SlotPlaces', WHERE WHAT IT READS IS OF BULK AT MOST 1048576: true; the input reads as it did. -/
def slotPlacesUptoRow : OpenClaim := { program := "ytplffbpnjnbolaa", sum := "f12e6210b9aee4920e1fbeb6e57ee3efa6cbaafced75226e37421d2c8177ca77", func := "casemate/casematelaw20.SlotPlaces", spec := "slotPlaces", apart := false, narrowed := true }
def SlotPlacesUptoSaid : Prop := slotPlacesUptoRow.holds Try.pinned (OpenSpec.upto slotPlacesSpec)

/-- 'casematelaw20.SlotBack', WHERE WHAT IT READS IS OF BULK AT MOST 1048576: true; the input reads as it did. -/
def slotBackUptoRow : OpenClaim := { program := "ytplffbpnjnbolaa", sum := "f12e6210b9aee4920e1fbeb6e57ee3efa6cbaafced75226e37421d2c8177ca77", func := "casemate/casematelaw20.SlotBack", spec := "slotBack", apart := false, narrowed := true }
def SlotBackUptoSaid : Prop := slotBackUptoRow.holds Try.pinned (OpenSpec.upto slotBackSpec)

/-- 'casematelaw20.SlotApart', WHERE WHAT IT READS IS OF BULK AT MOST 1048576: true; the input reads as it did. -/
def slotApartUptoRow : OpenClaim := { program := "ytplffbpnjnbolaa", sum := "f12e6210b9aee4920e1fbeb6e57ee3efa6cbaafced75226e37421d2c8177ca77", func := "casemate/casematelaw20.SlotApart", spec := "slotApart", apart := false, narrowed := true }
def SlotApartUptoSaid : Prop := slotApartUptoRow.holds Try.pinned (OpenSpec.upto slotApartSpec)

end Rows
end Go.Proofs.Ytplffbpnjnbolaa
