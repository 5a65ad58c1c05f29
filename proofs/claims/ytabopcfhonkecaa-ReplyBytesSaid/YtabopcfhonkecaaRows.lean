/-
  No cell of these rows narrows 'for every input' (looked for: loops, veiled, ifaces, maps, wideKeys, modest, calm, conditions, laid).
  DERIVED. THE GIVEN ROWS OF THIS SEAT. 4 by the template 'for every input the law returns true; each argument reads behind the call as it read before'; 0 by the template 'total and deterministic' (their statements: YtabopcfhonkecaaTotals.lean).
  GIVEN WITH THE SEED: the statements are not yours to turn. If you find one false, say at which input.
  Laid BY PROGRAM, IN A SANDBOX (cutbox-rows.mjs): the forced cells as the released guide's own fill.sh prints them over the translation d10f638ebff737b2… (all of the seat's roots in one cut). By AI agents, Wed Nov 11 2026. No macro, syntax, notation, axiom, sorry.
-/
import Derived.Test.YtabopcfhonkecaaChecked
import GoSem.Claim
import GoSem.ClaimJoined
import GoSem.ClaimMapViews
import Derived.JoinedTies
import Derived.KernelRfl
namespace Go.Proofs.Ytabopcfhonkecaa
/- THE CELL 'sum', in the pinned program and in every row, IS THE sha256 OF THE DUMP (.gsa) THAT YtabopcfhonkecaaProg.lean LOADS. Nothing in Lean hashes anything: it is a label: what it is worth is what the hold of that sum in a sandbox is worth. -/
noncomputable def Try.pinned : Pinned := { name := "ytabopcfhonkecaa", sum := "d10f638ebff737b2be5ccd732ddcdb7a679065afed2a3d949ae3372e66134536", checked := Try.checked }
namespace Rows
def none {H : Type} : Left H := { results := [], args := [] }

/-- 'casematelaw29.ReplyBytes': WHATEVER THE INPUT: true; the input reads as it did. -/
def replyBytesSpec : ChangeSpec := { name := "replyBytes", fn := fun _ => fun
  | [d1, d2, d3] => { results := [.lit (.bool true)], args := [d1, d2, d3] }
  | _ => none }
def replyBytesRow : OpenClaim := { program := "ytabopcfhonkecaa", sum := "d10f638ebff737b2be5ccd732ddcdb7a679065afed2a3d949ae3372e66134536", func := "casemate/casematelaw29.ReplyBytes", spec := "replyBytes", apart := false }
def ReplyBytesSaid : Prop := replyBytesRow.holds Try.pinned (OpenSpec.ofChange replyBytesSpec)

/-- ITS FALSE NEIGHBOUR: 'it returns false'. Refute it at one input. -/
def replyBytesWrong : ChangeSpec := { name := "replyBytes", fn := fun _ => fun
  | [d1, d2, d3] => { results := [.lit (.bool false)], args := [d1, d2, d3] }
  | _ => none }
def ReplyBytesWrongFalsely : Prop := replyBytesRow.holds Try.pinned (OpenSpec.ofChange replyBytesWrong)

/-- 'casematelaw29.ReplyStatus': WHATEVER THE INPUT: true; the input reads as it did. -/
def replyStatusSpec : ChangeSpec := { name := "replyStatus", fn := fun _ => fun
  | [d1, d2] => { results := [.lit (.bool true)], args := [d1, d2] }
  | _ => none }
def replyStatusRow : OpenClaim := { program := "ytabopcfhonkecaa", sum := "d10f638ebff737b2be5ccd732ddcdb7a679065afed2a3d949ae3372e66134536", func := "casemate/casematelaw29.ReplyStatus", spec := "replyStatus", apart := false }
def ReplyStatusSaid : Prop := replyStatusRow.holds Try.pinned (OpenSpec.ofChange replyStatusSpec)

/-- ITS FALSE NEIGHBOUR: 'it returns false'. Refute it at one input. -/
def replyStatusWrong : ChangeSpec := { name := "replyStatus", fn := fun _ => fun
  | [d1, d2] => { results := [.lit (.bool false)], args := [d1, d2] }
  | _ => none }
def ReplyStatusWrongFalsely : Prop := replyStatusRow.holds Try.pinned (OpenSpec.ofChange replyStatusWrong)

/-- 'casematelaw29.ReplyBack': WHATEVER THE INPUT: true; the input reads as it did. -/
def replyBackSpec : ChangeSpec := { name := "replyBack", fn := fun _ => fun
  | [d1, d2] => { results := [.lit (.bool true)], args := [d1, d2] }
  | _ => none }
def replyBackRow : OpenClaim := { program := "ytabopcfhonkecaa", sum := "d10f638ebff737b2be5ccd732ddcdb7a679065afed2a3d949ae3372e66134536", func := "casemate/casematelaw29.ReplyBack", spec := "replyBack", apart := false }
def ReplyBackSaid : Prop := replyBackRow.holds Try.pinned (OpenSpec.ofChange replyBackSpec)

/-- ITS FALSE NEIGHBOUR: 'it returns false'. Refute it at one input. -/
def replyBackWrong : ChangeSpec := { name := "replyBack", fn := fun _ => fun
  | [d1, d2] => { results := [.lit (.bool false)], args := [d1, d2] }
  | _ => none }
def ReplyBackWrongFalsely : Prop := replyBackRow.holds Try.pinned (OpenSpec.ofChange replyBackWrong)

/-- 'casematelaw29.ReplyStatusBack': WHATEVER THE INPUT: true; the input reads as it did. -/
def replyStatusBackSpec : ChangeSpec := { name := "replyStatusBack", fn := fun _ => fun
  | [d1, d2] => { results := [.lit (.bool true)], args := [d1, d2] }
  | _ => none }
def replyStatusBackRow : OpenClaim := { program := "ytabopcfhonkecaa", sum := "d10f638ebff737b2be5ccd732ddcdb7a679065afed2a3d949ae3372e66134536", func := "casemate/casematelaw29.ReplyStatusBack", spec := "replyStatusBack", apart := false }
def ReplyStatusBackSaid : Prop := replyStatusBackRow.holds Try.pinned (OpenSpec.ofChange replyStatusBackSpec)

/-- ITS FALSE NEIGHBOUR: 'it returns false'. Refute it at one input. -/
def replyStatusBackWrong : ChangeSpec := { name := "replyStatusBack", fn := fun _ => fun
  | [d1, d2] => { results := [.lit (.bool false)], args := [d1, d2] }
  | _ => none }
def ReplyStatusBackWrongFalsely : Prop := replyStatusBackRow.holds Try.pinned (OpenSpec.ofChange replyStatusBackWrong)

/- THE SECOND FORM. 'bulk': how many values and letters a reading holds, each counted each time it is reached (what is shared counts as often as it is met; a slice's spare places count too). A statement '..UptoSaid' is the law's where the arguments, and the package variables that the reading takes, are together of bulk at most 1048576: NARROWER than '..Said'. Prove '..Said' where nothing that the law and all that it calls make is longer than what came in: it says more and counts as full. Else prove '..UptoSaid'. A law counts once. -/
mutual
def uptoBulk {H : Type} : DataW H → Nat
  | .lit (.string bytes) => bytes.length + 1
  | .lit _ => 1
  | .nil => 1
  | .ptr d => uptoBulk d + 1
  | .slice elems spare => uptoBulkAll elems + uptoBulkAll spare + 1
  | .agg parts => uptoBulkAll parts + 1
  | .iface _ d => uptoBulk d + 1
  | .map entries => uptoBulkEntries entries + 1
  | .held _ => 1
def uptoBulkAll {H : Type} : List (DataW H) → Nat
  | [] => 0
  | d :: r => uptoBulk d + uptoBulkAll r
def uptoBulkEntries {H : Type} : List (Lit × DataW H) → Nat
  | [] => 0
  | x :: r => uptoBulkEntry x + uptoBulkEntries r
def uptoBulkEntry {H : Type} : Lit × DataW H → Nat
  | (.string bytes, d) => bytes.length + uptoBulk d + 1
  | (_, d) => uptoBulk d + 1
 end
def uptoSmall : (H : Type) → List (DataW H) → Bool := fun _ ds => decide (uptoBulkAll ds ≤ 1048576)
def OpenSpec.upto (s : _root_.Go.ChangeSpec) : _root_.Go.OpenSpec := { _root_.Go.OpenSpec.ofChange s with cond := some uptoSmall }

/-- 'casematelaw29.ReplyBytes', WHERE WHAT IT READS IS OF BULK AT MOST 1048576: true; the input reads as it did. -/
def replyBytesUptoRow : OpenClaim := { program := "ytabopcfhonkecaa", sum := "d10f638ebff737b2be5ccd732ddcdb7a679065afed2a3d949ae3372e66134536", func := "casemate/casematelaw29.ReplyBytes", spec := "replyBytes", apart := false, narrowed := true }
def ReplyBytesUptoSaid : Prop := replyBytesUptoRow.holds Try.pinned (OpenSpec.upto replyBytesSpec)

/-- 'casematelaw29.ReplyStatus', WHERE WHAT IT READS IS OF BULK AT MOST 1048576: true; the input reads as it did. -/
def replyStatusUptoRow : OpenClaim := { program := "ytabopcfhonkecaa", sum := "d10f638ebff737b2be5ccd732ddcdb7a679065afed2a3d949ae3372e66134536", func := "casemate/casematelaw29.ReplyStatus", spec := "replyStatus", apart := false, narrowed := true }
def ReplyStatusUptoSaid : Prop := replyStatusUptoRow.holds Try.pinned (OpenSpec.upto replyStatusSpec)

/-- 'casematelaw29.ReplyBack', WHERE WHAT IT READS IS OF BULK AT MOST 1048576: true; the input reads as it did. -/
def replyBackUptoRow : OpenClaim := { program := "ytabopcfhonkecaa", sum := "d10f638ebff737b2be5ccd732ddcdb7a679065afed2a3d949ae3372e66134536", func := "casemate/casematelaw29.ReplyBack", spec := "replyBack", apart := false, narrowed := true }
def ReplyBackUptoSaid : Prop := replyBackUptoRow.holds Try.pinned (OpenSpec.upto replyBackSpec)

/-- 'casematelaw29.ReplyStatusBack', WHERE WHAT IT READS IS OF BULK AT MOST 1048576: true; the input reads as it did. -/
def replyStatusBackUptoRow : OpenClaim := { program := "ytabopcfhonkecaa", sum := "d10f638ebff737b2be5ccd732ddcdb7a679065afed2a3d949ae3372e66134536", func := "casemate/casematelaw29.ReplyStatusBack", spec := "replyStatusBack", apart := false, narrowed := true }
def ReplyStatusBackUptoSaid : Prop := replyStatusBackUptoRow.holds Try.pinned (OpenSpec.upto replyStatusBackSpec)

end Rows
end Go.Proofs.Ytabopcfhonkecaa
