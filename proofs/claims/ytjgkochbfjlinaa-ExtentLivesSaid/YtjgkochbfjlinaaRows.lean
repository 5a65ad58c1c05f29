/-
  No cell of these rows narrows 'for every input' (looked for: loops, veiled, ifaces, maps, wideKeys, modest, calm, conditions, laid).
  DERIVED. THE GIVEN ROWS OF THIS SEAT. 5 by the template 'for every input the law returns true; each argument reads behind the call as it read before'; 0 by the template 'total and deterministic' (their statements: YtjgkochbfjlinaaTotals.lean).
  GIVEN WITH THE SEED: the statements are not yours to turn. If you find one false, say at which input.
  Laid BY PROGRAM, IN A SANDBOX (cutbox-rows.mjs): the forced cells as the released guide's own fill.sh prints them over the translation c1db4392c595aa58… (all of the seat's roots in one cut). By AI agents, Wed Nov 11 2026. No macro, syntax, notation, axiom, sorry.
-/
import Derived.Test.YtjgkochbfjlinaaChecked
import GoSem.Claim
import GoSem.ClaimJoined
import GoSem.ClaimMapViews
import Derived.JoinedTies
import Derived.KernelRfl
namespace Go.Proofs.Ytjgkochbfjlinaa
/- THE CELL 'sum', in the pinned program and in every row, IS THE sha256 OF THE DUMP (.gsa) THAT YtjgkochbfjlinaaProg.lean LOADS. Nothing in Lean hashes anything: it is a label: what it is worth is what the hold of that sum in a sandbox is worth. -/
noncomputable def Try.pinned : Pinned := { name := "ytjgkochbfjlinaa", sum := "c1db4392c595aa584685ba927284239f0f09c3cf94a3a834658c3ce0dd49f057", checked := Try.checked }
namespace Rows
def none {H : Type} : Left H := { results := [], args := [] }

/-- 'casematelaw17.ExtentLives': WHATEVER THE INPUT: true; the input reads as it did. -/
def extentLivesSpec : ChangeSpec := { name := "extentLives", fn := fun _ => fun
  | [d1, d2, d3] => { results := [.lit (.bool true)], args := [d1, d2, d3] }
  | _ => none }
def extentLivesRow : OpenClaim := { program := "ytjgkochbfjlinaa", sum := "c1db4392c595aa584685ba927284239f0f09c3cf94a3a834658c3ce0dd49f057", func := "casemate/casematelaw17.ExtentLives", spec := "extentLives", apart := false }
def ExtentLivesSaid : Prop := extentLivesRow.holds Try.pinned (OpenSpec.ofChange extentLivesSpec)

/-- ITS FALSE NEIGHBOUR: 'it returns false'. Refute it at one input. -/
def extentLivesWrong : ChangeSpec := { name := "extentLives", fn := fun _ => fun
  | [d1, d2, d3] => { results := [.lit (.bool false)], args := [d1, d2, d3] }
  | _ => none }
def ExtentLivesWrongFalsely : Prop := extentLivesRow.holds Try.pinned (OpenSpec.ofChange extentLivesWrong)

/-- 'casematelaw17.ExtentNobody': WHATEVER THE INPUT: true; the input reads as it did. -/
def extentNobodySpec : ChangeSpec := { name := "extentNobody", fn := fun _ => fun
  | [d] => { results := [.lit (.bool true)], args := [d] }
  | _ => none }
def extentNobodyRow : OpenClaim := { program := "ytjgkochbfjlinaa", sum := "c1db4392c595aa584685ba927284239f0f09c3cf94a3a834658c3ce0dd49f057", func := "casemate/casematelaw17.ExtentNobody", spec := "extentNobody", apart := false }
def ExtentNobodySaid : Prop := extentNobodyRow.holds Try.pinned (OpenSpec.ofChange extentNobodySpec)

/-- ITS FALSE NEIGHBOUR: 'it returns false'. Refute it at one input. -/
def extentNobodyWrong : ChangeSpec := { name := "extentNobody", fn := fun _ => fun
  | [d] => { results := [.lit (.bool false)], args := [d] }
  | _ => none }
def ExtentNobodyWrongFalsely : Prop := extentNobodyRow.holds Try.pinned (OpenSpec.ofChange extentNobodyWrong)

/-- 'casematelaw17.ExtentSums': WHATEVER THE INPUT: true; the input reads as it did. -/
def extentSumsSpec : ChangeSpec := { name := "extentSums", fn := fun _ => fun
  | [d] => { results := [.lit (.bool true)], args := [d] }
  | _ => none }
def extentSumsRow : OpenClaim := { program := "ytjgkochbfjlinaa", sum := "c1db4392c595aa584685ba927284239f0f09c3cf94a3a834658c3ce0dd49f057", func := "casemate/casematelaw17.ExtentSums", spec := "extentSums", apart := false }
def ExtentSumsSaid : Prop := extentSumsRow.holds Try.pinned (OpenSpec.ofChange extentSumsSpec)

/-- ITS FALSE NEIGHBOUR: 'it returns false'. Refute it at one input. -/
def extentSumsWrong : ChangeSpec := { name := "extentSums", fn := fun _ => fun
  | [d] => { results := [.lit (.bool false)], args := [d] }
  | _ => none }
def ExtentSumsWrongFalsely : Prop := extentSumsRow.holds Try.pinned (OpenSpec.ofChange extentSumsWrong)

/-- 'casematelaw17.ExtentReserve': WHATEVER THE INPUT: true; the input reads as it did. -/
def extentReserveSpec : ChangeSpec := { name := "extentReserve", fn := fun _ => fun
  | [d] => { results := [.lit (.bool true)], args := [d] }
  | _ => none }
def extentReserveRow : OpenClaim := { program := "ytjgkochbfjlinaa", sum := "c1db4392c595aa584685ba927284239f0f09c3cf94a3a834658c3ce0dd49f057", func := "casemate/casematelaw17.ExtentReserve", spec := "extentReserve", apart := false }
def ExtentReserveSaid : Prop := extentReserveRow.holds Try.pinned (OpenSpec.ofChange extentReserveSpec)

/-- ITS FALSE NEIGHBOUR: 'it returns false'. Refute it at one input. -/
def extentReserveWrong : ChangeSpec := { name := "extentReserve", fn := fun _ => fun
  | [d] => { results := [.lit (.bool false)], args := [d] }
  | _ => none }
def ExtentReserveWrongFalsely : Prop := extentReserveRow.holds Try.pinned (OpenSpec.ofChange extentReserveWrong)

/-- 'casematelaw17.ExtentApart': WHATEVER THE INPUT: true; the input reads as it did. -/
def extentApartSpec : ChangeSpec := { name := "extentApart", fn := fun _ => fun
  | [d1, d2, d3, d4] => { results := [.lit (.bool true)], args := [d1, d2, d3, d4] }
  | _ => none }
def extentApartRow : OpenClaim := { program := "ytjgkochbfjlinaa", sum := "c1db4392c595aa584685ba927284239f0f09c3cf94a3a834658c3ce0dd49f057", func := "casemate/casematelaw17.ExtentApart", spec := "extentApart", apart := false }
def ExtentApartSaid : Prop := extentApartRow.holds Try.pinned (OpenSpec.ofChange extentApartSpec)

/-- ITS FALSE NEIGHBOUR: 'it returns false'. Refute it at one input. -/
def extentApartWrong : ChangeSpec := { name := "extentApart", fn := fun _ => fun
  | [d1, d2, d3, d4] => { results := [.lit (.bool false)], args := [d1, d2, d3, d4] }
  | _ => none }
def ExtentApartWrongFalsely : Prop := extentApartRow.holds Try.pinned (OpenSpec.ofChange extentApartWrong)

/- THE SECOND FORM. 'bulk': how many values and letters a reading holds, each counted each time it is reached (what is shared counts as often as it is met; a slice's spare places count too). A statement '..UptoSaid' is the law's where the arguments, and the package variables that the reading takes, are together of bulk at most 1048576: NARROWER than '..Said'. Prove '..Said' where nothing that the law and all that it calls make is longer than what came in: it says more and counts as full. Else prove '..UptoSaid'. A law counts once. -/
mutual
def uptoBulk {H : Type} : DataW H → Nat
  | .lit (.string bytes) => bytes.length + 1
  | .lit _ => 1
  | .nil => 1
  | .ptr d => uptoBulk d + 1
  | .slice elems spare => uptoBulkAll elems + uptoBulkAll spare + 1
  | .agg parts => uptoBulkAll parts + 1
  | .iface _ d => uptoBulk d + 1
  | .map entries => uptoBulkEntries entries + 1
  | .held _ => 1
def uptoBulkAll {H : Type} : List (DataW H) → Nat
  | [] => 0
  | d :: r => uptoBulk d + uptoBulkAll r
def uptoBulkEntries {H : Type} : List (Lit × DataW H) → Nat
  | [] => 0
  | x :: r => uptoBulkEntry x + uptoBulkEntries r
def uptoBulkEntry {H : Type} : Lit × DataW H → Nat
  | (.string bytes, d) => bytes.length + uptoBulk d + 1
  | (_, d) => uptoBulk d + 1
 end
def uptoSmall : (H : Type) → List (DataW H) → Bool := fun _ ds => decide (uptoBulkAll ds ≤ 1048576)
def OpenSpec.upto (s : _root_.Go.ChangeSpec) : _root_.Go.OpenSpec := { _root_.Go.OpenSpec.ofChange s with cond := some uptoSmall }

/-- 'casematelaw17.ExtentLives', WHERE WHAT IT READS IS OF BULK AT MOST 1048576: true; the input reads as it did. -/
def extentLivesUptoRow : OpenClaim := { program := "ytjgkochbfjlinaa", sum := "c1db4392c595aa584685ba927284239f0f09c3cf94a3a834658c3ce0dd49f057", func := "casemate/casematelaw17.ExtentLives", spec := "extentLives", apart := false, narrowed := true }
def ExtentLivesUptoSaid : Prop := extentLivesUptoRow.holds Try.pinned (OpenSpec.upto extentLivesSpec)

/-- 'casematelaw17.ExtentNobody', WHERE WHAT IT READS IS OF BULK AT MOST 1048576: true; the input reads as it did. -/
def extentNobodyUptoRow : OpenClaim := { program := "ytjgkochbfjlinaa", sum := "c1db4392c595aa584685ba927284239f0f09c3cf94a3a834658c3ce0dd49f057", func := "casemate/casematelaw17.ExtentNobody", spec := "extentNobody", apart := false, narrowed := true }
def ExtentNobodyUptoSaid : Prop := extentNobodyUptoRow.holds Try.pinned (OpenSpec.upto extentNobodySpec)

/-- 'casematelaw17.ExtentSums', WHERE WHAT IT READS IS OF BULK AT MOST 1048576: true; the input reads as it did. -/
def extentSumsUptoRow : OpenClaim := { program := "ytjgkochbfjlinaa", sum := "c1db4392c595aa584685ba927284239f0f09c3cf94a3a834658c3ce0dd49f057", func := "casemate/casematelaw17.ExtentSums", spec := "extentSums", apart := false, narrowed := true }
def ExtentSumsUptoSaid : Prop := extentSumsUptoRow.holds Try.pinned (OpenSpec.upto extentSumsSpec)

/-- 'casematelaw17.ExtentReserve', WHERE WHAT IT READS IS OF BULK AT MOST 1048576: true; the input reads as it did. -/
def extentReserveUptoRow : OpenClaim := { program := "ytjgkochbfjlinaa", sum := "c1db4392c595aa584685ba927284239f0f09c3cf94a3a834658c3ce0dd49f057", func := "casemate/casematelaw17.ExtentReserve", spec := "extentReserve", apart := false, narrowed := true }
def ExtentReserveUptoSaid : Prop := extentReserveUptoRow.holds Try.pinned (OpenSpec.upto extentReserveSpec)

/-- 'casematelaw17.ExtentApart', WHERE WHAT IT READS IS OF BULK AT MOST 1048576: true; the input reads as it did. -/
def extentApartUptoRow : OpenClaim := { program := "ytjgkochbfjlinaa", sum := "c1db4392c595aa584685ba927284239f0f09c3cf94a3a834658c3ce0dd49f057", func := "casemate/casematelaw17.ExtentApart", spec := "extentApart", apart := false, narrowed := true }
def ExtentApartUptoSaid : Prop := extentApartUptoRow.holds Try.pinned (OpenSpec.upto extentApartSpec)

end Rows
end Go.Proofs.Ytjgkochbfjlinaa
