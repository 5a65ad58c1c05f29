/-
  No cell of these rows narrows 'for every input' (looked for: loops, veiled, ifaces, maps, wideKeys, modest, calm, conditions, laid).
  DERIVED. THE GIVEN ROWS OF THIS SEAT. 4 by the template 'for every input the law returns true; each argument reads behind the call as it read before'; 0 by the template 'total and deterministic' (their statements: YtdohggpajhkkhaaTotals.lean).
  GIVEN WITH THE SEED: the statements are not yours to turn. If you find one false, say at which input.
  Laid BY PROGRAM, IN A SANDBOX (cutbox-rows.mjs): the forced cells as the released guide's own fill.sh prints them over the translation 3679f7beae83fad2… (all of the seat's roots in one cut). By AI agents, Wed Nov 11 2026. No macro, syntax, notation, axiom, sorry.
-/
import Derived.Test.YtdohggpajhkkhaaChecked
import GoSem.Claim
import GoSem.ClaimJoined
import GoSem.ClaimMapViews
import Derived.JoinedTies
import Derived.KernelRfl
namespace Go.Proofs.Ytdohggpajhkkhaa
/- THE CELL 'sum', in the pinned program and in every row, IS THE sha256 OF THE DUMP (.gsa) THAT YtdohggpajhkkhaaProg.lean LOADS. Nothing in Lean hashes anything: it is a label: what it is worth is what the hold of that sum in a sandbox is worth. -/
noncomputable def Try.pinned : Pinned := { name := "ytdohggpajhkkhaa", sum := "3679f7beae83fad258ea1abf7329f9faf7bc0a8ac38872176a46b8229d124bad", checked := Try.checked }
namespace Rows
def none {H : Type} : Left H := { results := [], args := [] }

/-- 'casematelaw28.ReqBytes': WHATEVER THE INPUT: true; the input reads as it did. -/
def reqBytesSpec : ChangeSpec := { name := "reqBytes", fn := fun _ => fun
  | [d1, d2, d3] => { results := [.lit (.bool true)], args := [d1, d2, d3] }
  | _ => none }
def reqBytesRow : OpenClaim := { program := "ytdohggpajhkkhaa", sum := "3679f7beae83fad258ea1abf7329f9faf7bc0a8ac38872176a46b8229d124bad", func := "casemate/casematelaw28.ReqBytes", spec := "reqBytes", unfollowed := true, recurses := true, apart := false }
def ReqBytesSaid : Prop := reqBytesRow.holds Try.pinned (OpenSpec.ofChange reqBytesSpec)

/-- ITS FALSE NEIGHBOUR: 'it returns false'. Refute it at one input. -/
def reqBytesWrong : ChangeSpec := { name := "reqBytes", fn := fun _ => fun
  | [d1, d2, d3] => { results := [.lit (.bool false)], args := [d1, d2, d3] }
  | _ => none }
def ReqBytesWrongFalsely : Prop := reqBytesRow.holds Try.pinned (OpenSpec.ofChange reqBytesWrong)

/-- 'casematelaw28.ReqBack': WHATEVER THE INPUT: true; the input reads as it did. -/
def reqBackSpec : ChangeSpec := { name := "reqBack", fn := fun _ => fun
  | [d1, d2] => { results := [.lit (.bool true)], args := [d1, d2] }
  | _ => none }
def reqBackRow : OpenClaim := { program := "ytdohggpajhkkhaa", sum := "3679f7beae83fad258ea1abf7329f9faf7bc0a8ac38872176a46b8229d124bad", func := "casemate/casematelaw28.ReqBack", spec := "reqBack", unfollowed := true, recurses := true, apart := false }
def ReqBackSaid : Prop := reqBackRow.holds Try.pinned (OpenSpec.ofChange reqBackSpec)

/-- ITS FALSE NEIGHBOUR: 'it returns false'. Refute it at one input. -/
def reqBackWrong : ChangeSpec := { name := "reqBack", fn := fun _ => fun
  | [d1, d2] => { results := [.lit (.bool false)], args := [d1, d2] }
  | _ => none }
def ReqBackWrongFalsely : Prop := reqBackRow.holds Try.pinned (OpenSpec.ofChange reqBackWrong)

/-- 'casematelaw28.ReqApart': WHATEVER THE INPUT: true; the input reads as it did. -/
def reqApartSpec : ChangeSpec := { name := "reqApart", fn := fun _ => fun
  | [d1, d2] => { results := [.lit (.bool true)], args := [d1, d2] }
  | _ => none }
def reqApartRow : OpenClaim := { program := "ytdohggpajhkkhaa", sum := "3679f7beae83fad258ea1abf7329f9faf7bc0a8ac38872176a46b8229d124bad", func := "casemate/casematelaw28.ReqApart", spec := "reqApart", unfollowed := true, recurses := true, apart := false }
def ReqApartSaid : Prop := reqApartRow.holds Try.pinned (OpenSpec.ofChange reqApartSpec)

/-- ITS FALSE NEIGHBOUR: 'it returns false'. Refute it at one input. -/
def reqApartWrong : ChangeSpec := { name := "reqApart", fn := fun _ => fun
  | [d1, d2] => { results := [.lit (.bool false)], args := [d1, d2] }
  | _ => none }
def ReqApartWrongFalsely : Prop := reqApartRow.holds Try.pinned (OpenSpec.ofChange reqApartWrong)

/-- 'casematelaw28.ReqCut': WHATEVER THE INPUT: true; the input reads as it did. -/
def reqCutSpec : ChangeSpec := { name := "reqCut", fn := fun _ => fun
  | [d1, d2, d3] => { results := [.lit (.bool true)], args := [d1, d2, d3] }
  | _ => none }
def reqCutRow : OpenClaim := { program := "ytdohggpajhkkhaa", sum := "3679f7beae83fad258ea1abf7329f9faf7bc0a8ac38872176a46b8229d124bad", func := "casemate/casematelaw28.ReqCut", spec := "reqCut", unfollowed := true, recurses := true, apart := false }
def ReqCutSaid : Prop := reqCutRow.holds Try.pinned (OpenSpec.ofChange reqCutSpec)

/-- ITS FALSE NEIGHBOUR: 'it returns false'. Refute it at one input. -/
def reqCutWrong : ChangeSpec := { name := "reqCut", fn := fun _ => fun
  | [d1, d2, d3] => { results := [.lit (.bool false)], args := [d1, d2, d3] }
  | _ => none }
def ReqCutWrongFalsely : Prop := reqCutRow.holds Try.pinned (OpenSpec.ofChange reqCutWrong)

/- THE SECOND FORM. 'bulk': how many values and letters a reading holds, each counted each time it is reached (what is shared counts as often as it is met; a slice's spare places count too). A statement '..UptoSaid' is the law's where the arguments, and the package variables that the reading takes, are together of bulk at most 1048576: NARROWER than '..Said'. Prove '..Said' where nothing that the law and all that it calls make is longer than what came in: it says more and counts as full. Else prove '..UptoSaid'. A law counts once. -/
mutual
def uptoBulk {H : Type} : DataW H → Nat
  | .lit (.string bytes) => bytes.length + 1
  | .lit _ => 1
  | .nil => 1
  | .ptr d => uptoBulk d + 1
  | .slice elems spare => uptoBulkAll elems + uptoBulkAll spare + 1
  | .agg parts => uptoBulkAll parts + 1
  | .iface _ d => uptoBulk d + 1
  | .map entries => uptoBulkEntries entries + 1
  | .held _ => 1
def uptoBulkAll {H : Type} : List (DataW H) → Nat
  | [] => 0
  | d :: r => uptoBulk d + uptoBulkAll r
def uptoBulkEntries {H : Type} : List (Lit × DataW H) → Nat
  | [] => 0
  | x :: r => uptoBulkEntry x + uptoBulkEntries r
def uptoBulkEntry {H : Type} : Lit × DataW H → Nat
  | (.string bytes, d) => bytes.length + uptoBulk d + 1
  | (_, d) => uptoBulk d + 1
 end
def uptoSmall : (H : Type) → List (DataW H) → Bool := fun _ ds => decide (uptoBulkAll ds ≤ 1048576)
def OpenSpec.upto (s : _root_.Go.ChangeSpec) : _root_.Go.OpenSpec := { _root_.Go.OpenSpec.ofChange s with cond := some uptoSmall }

/-- 'casematelaw28.ReqBytes', WHERE WHAT IT READS IS OF BULK AT MOST 1048576: true; the input reads as it did. -/
def reqBytesUptoRow : OpenClaim := { program := "ytdohggpajhkkhaa", sum := "3679f7beae83fad258ea1abf7329f9faf7bc0a8ac38872176a46b8229d124bad", func := "casemate/casematelaw28.ReqBytes", spec := "reqBytes", unfollowed := true, recurses := true, apart := false, narrowed := true }
def ReqBytesUptoSaid : Prop := reqBytesUptoRow.holds Try.pinned (OpenSpec.upto reqBytesSpec)

/-- 'casematelaw28.ReqBack', WHERE WHAT IT READS IS OF BULK AT MOST 1048576: true; the input reads as it did. -/
def reqBackUptoRow : OpenClaim := { program := "ytdohggpajhkkhaa", sum := "3679f7beae83fad258ea1abf7329f9faf7bc0a8ac38872176a46b8229d124bad", func := "casemate/casematelaw28.ReqBack", spec := "reqBack", unfollowed := true, recurses := true, apart := false, narrowed := true }
def ReqBackUptoSaid : Prop := reqBackUptoRow.holds Try.pinned (OpenSpec.upto reqBackSpec)

/-- 'casematelaw28.ReqApart', WHERE WHAT IT READS IS OF BULK AT MOST 1048576: true; the input reads as it did. -/
def reqApartUptoRow : OpenClaim := { program := "ytdohggpajhkkhaa", sum := "3679f7beae83fad258ea1abf7329f9faf7bc0a8ac38872176a46b8229d124bad", func := "casemate/casematelaw28.ReqApart", spec := "reqApart", unfollowed := true, recurses := true, apart := false, narrowed := true }
def ReqApartUptoSaid : Prop := reqApartUptoRow.holds Try.pinned (OpenSpec.upto reqApartSpec)

/-- 'casematelaw28.ReqCut', WHERE WHAT IT READS IS OF BULK AT MOST 1048576: true; the input reads as it did. -/
def reqCutUptoRow : OpenClaim := { program := "ytdohggpajhkkhaa", sum := "3679f7beae83fad258ea1abf7329f9faf7bc0a8ac38872176a46b8229d124bad", func := "casemate/casematelaw28.ReqCut", spec := "reqCut", unfollowed := true, recurses := true, apart := false, narrowed := true }
def ReqCutUptoSaid : Prop := reqCutUptoRow.holds Try.pinned (OpenSpec.upto reqCutSpec)

end Rows
end Go.Proofs.Ytdohggpajhkkhaa
