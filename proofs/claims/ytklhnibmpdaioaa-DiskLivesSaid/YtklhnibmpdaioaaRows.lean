/-
  No cell of these rows narrows 'for every input' (looked for: loops, veiled, ifaces, maps, wideKeys, modest, calm, conditions, laid).
  DERIVED. THE GIVEN ROWS OF THIS SEAT. 10 by the template 'for every input the law returns true; each argument reads behind the call as it read before'; 0 by the template 'total and deterministic' (their statements: YtklhnibmpdaioaaTotals.lean).
  GIVEN WITH THE SEED: the statements are not yours to turn. If you find one false, say at which input.
  Laid BY PROGRAM, IN A SANDBOX (cutbox-rows.mjs): the forced cells as the released guide's own fill.sh prints them over the translation ab25cf6598ec5909… (all of the seat's roots in one cut). By AI agents, Wed Nov 11 2026. No macro, syntax, notation, axiom, sorry.
-/
import Derived.Test.YtklhnibmpdaioaaChecked
import GoSem.Claim
import GoSem.ClaimJoined
import GoSem.ClaimMapViews
import Derived.JoinedTies
import Derived.KernelRfl
namespace Go.Proofs.Ytklhnibmpdaioaa
/- THE CELL 'sum', in the pinned program and in every row, IS THE sha256 OF THE DUMP (.gsa) THAT YtklhnibmpdaioaaProg.lean LOADS. Nothing in Lean hashes anything: it is a label: what it is worth is what the hold of that sum in a sandbox is worth. -/
noncomputable def Try.pinned : Pinned := { name := "ytklhnibmpdaioaa", sum := "ab25cf6598ec5909b98f24d03c1203ff32df996f643103a4681e267fac357cb7", checked := Try.checked }
namespace Rows
def none {H : Type} : Left H := { results := [], args := [] }

/-- 'casematelaw11.DiskLives': WHATEVER THE INPUT: true; the input reads as it did. -/
def diskLivesSpec : ChangeSpec := { name := "diskLives", fn := fun _ => fun
  | [d1, d2, d3] => { results := [.lit (.bool true)], args := [d1, d2, d3] }
  | _ => none }
def diskLivesRow : OpenClaim := { program := "ytklhnibmpdaioaa", sum := "ab25cf6598ec5909b98f24d03c1203ff32df996f643103a4681e267fac357cb7", func := "casemate/casematelaw11.DiskLives", spec := "diskLives", unfollowed := true, recurses := true, apart := false }
def DiskLivesSaid : Prop := diskLivesRow.holds Try.pinned (OpenSpec.ofChange diskLivesSpec)

/-- ITS FALSE NEIGHBOUR: 'it returns false'. Refute it at one input. -/
def diskLivesWrong : ChangeSpec := { name := "diskLives", fn := fun _ => fun
  | [d1, d2, d3] => { results := [.lit (.bool false)], args := [d1, d2, d3] }
  | _ => none }
def DiskLivesWrongFalsely : Prop := diskLivesRow.holds Try.pinned (OpenSpec.ofChange diskLivesWrong)

/-- 'casematelaw11.DiskNobody': WHATEVER THE INPUT: true; the input reads as it did. -/
def diskNobodySpec : ChangeSpec := { name := "diskNobody", fn := fun _ => fun
  | [d] => { results := [.lit (.bool true)], args := [d] }
  | _ => none }
def diskNobodyRow : OpenClaim := { program := "ytklhnibmpdaioaa", sum := "ab25cf6598ec5909b98f24d03c1203ff32df996f643103a4681e267fac357cb7", func := "casemate/casematelaw11.DiskNobody", spec := "diskNobody", unfollowed := true, recurses := true, apart := false }
def DiskNobodySaid : Prop := diskNobodyRow.holds Try.pinned (OpenSpec.ofChange diskNobodySpec)

/-- ITS FALSE NEIGHBOUR: 'it returns false'. Refute it at one input. -/
def diskNobodyWrong : ChangeSpec := { name := "diskNobody", fn := fun _ => fun
  | [d] => { results := [.lit (.bool false)], args := [d] }
  | _ => none }
def DiskNobodyWrongFalsely : Prop := diskNobodyRow.holds Try.pinned (OpenSpec.ofChange diskNobodyWrong)

/-- 'casematelaw11.DiskLasts': WHATEVER THE INPUT: true; the input reads as it did. -/
def diskLastsSpec : ChangeSpec := { name := "diskLasts", fn := fun _ => fun
  | [d1, d2] => { results := [.lit (.bool true)], args := [d1, d2] }
  | _ => none }
def diskLastsRow : OpenClaim := { program := "ytklhnibmpdaioaa", sum := "ab25cf6598ec5909b98f24d03c1203ff32df996f643103a4681e267fac357cb7", func := "casemate/casematelaw11.DiskLasts", spec := "diskLasts", unfollowed := true, recurses := true, apart := false }
def DiskLastsSaid : Prop := diskLastsRow.holds Try.pinned (OpenSpec.ofChange diskLastsSpec)

/-- ITS FALSE NEIGHBOUR: 'it returns false'. Refute it at one input. -/
def diskLastsWrong : ChangeSpec := { name := "diskLasts", fn := fun _ => fun
  | [d1, d2] => { results := [.lit (.bool false)], args := [d1, d2] }
  | _ => none }
def DiskLastsWrongFalsely : Prop := diskLastsRow.holds Try.pinned (OpenSpec.ofChange diskLastsWrong)

/-- 'casematelaw11.DiskShows': WHATEVER THE INPUT: true; the input reads as it did. -/
def diskShowsSpec : ChangeSpec := { name := "diskShows", fn := fun _ => fun
  | [d] => { results := [.lit (.bool true)], args := [d] }
  | _ => none }
def diskShowsRow : OpenClaim := { program := "ytklhnibmpdaioaa", sum := "ab25cf6598ec5909b98f24d03c1203ff32df996f643103a4681e267fac357cb7", func := "casemate/casematelaw11.DiskShows", spec := "diskShows", unfollowed := true, recurses := true, apart := false }
def DiskShowsSaid : Prop := diskShowsRow.holds Try.pinned (OpenSpec.ofChange diskShowsSpec)

/-- ITS FALSE NEIGHBOUR: 'it returns false'. Refute it at one input. -/
def diskShowsWrong : ChangeSpec := { name := "diskShows", fn := fun _ => fun
  | [d] => { results := [.lit (.bool false)], args := [d] }
  | _ => none }
def DiskShowsWrongFalsely : Prop := diskShowsRow.holds Try.pinned (OpenSpec.ofChange diskShowsWrong)

/-- 'casematelaw11.DiskDown': WHATEVER THE INPUT: true; the input reads as it did. -/
def diskDownSpec : ChangeSpec := { name := "diskDown", fn := fun _ => fun
  | [d1, d2] => { results := [.lit (.bool true)], args := [d1, d2] }
  | _ => none }
def diskDownRow : OpenClaim := { program := "ytklhnibmpdaioaa", sum := "ab25cf6598ec5909b98f24d03c1203ff32df996f643103a4681e267fac357cb7", func := "casemate/casematelaw11.DiskDown", spec := "diskDown", unfollowed := true, recurses := true, apart := false }
def DiskDownSaid : Prop := diskDownRow.holds Try.pinned (OpenSpec.ofChange diskDownSpec)

/-- ITS FALSE NEIGHBOUR: 'it returns false'. Refute it at one input. -/
def diskDownWrong : ChangeSpec := { name := "diskDown", fn := fun _ => fun
  | [d1, d2] => { results := [.lit (.bool false)], args := [d1, d2] }
  | _ => none }
def DiskDownWrongFalsely : Prop := diskDownRow.holds Try.pinned (OpenSpec.ofChange diskDownWrong)

/-- 'casematelaw12.BitsLives': WHATEVER THE INPUT: true; the input reads as it did. -/
def bitsLivesSpec : ChangeSpec := { name := "bitsLives", fn := fun _ => fun
  | [d1, d2, d3] => { results := [.lit (.bool true)], args := [d1, d2, d3] }
  | _ => none }
def bitsLivesRow : OpenClaim := { program := "ytklhnibmpdaioaa", sum := "ab25cf6598ec5909b98f24d03c1203ff32df996f643103a4681e267fac357cb7", func := "casemate/casematelaw12.BitsLives", spec := "bitsLives", apart := false }
def BitsLivesSaid : Prop := bitsLivesRow.holds Try.pinned (OpenSpec.ofChange bitsLivesSpec)

/-- ITS FALSE NEIGHBOUR: 'it returns false'. Refute it at one input. -/
def bitsLivesWrong : ChangeSpec := { name := "bitsLives", fn := fun _ => fun
  | [d1, d2, d3] => { results := [.lit (.bool false)], args := [d1, d2, d3] }
  | _ => none }
def BitsLivesWrongFalsely : Prop := bitsLivesRow.holds Try.pinned (OpenSpec.ofChange bitsLivesWrong)

/-- 'casematelaw12.BitsNobody': WHATEVER THE INPUT: true; the input reads as it did. -/
def bitsNobodySpec : ChangeSpec := { name := "bitsNobody", fn := fun _ => fun
  | [d] => { results := [.lit (.bool true)], args := [d] }
  | _ => none }
def bitsNobodyRow : OpenClaim := { program := "ytklhnibmpdaioaa", sum := "ab25cf6598ec5909b98f24d03c1203ff32df996f643103a4681e267fac357cb7", func := "casemate/casematelaw12.BitsNobody", spec := "bitsNobody", inPlace := ["maps.clone"], apart := false }
def BitsNobodySaid : Prop := bitsNobodyRow.holds Try.pinned (OpenSpec.ofChange bitsNobodySpec)

/-- ITS FALSE NEIGHBOUR: 'it returns false'. Refute it at one input. -/
def bitsNobodyWrong : ChangeSpec := { name := "bitsNobody", fn := fun _ => fun
  | [d] => { results := [.lit (.bool false)], args := [d] }
  | _ => none }
def BitsNobodyWrongFalsely : Prop := bitsNobodyRow.holds Try.pinned (OpenSpec.ofChange bitsNobodyWrong)

/-- 'casematelaw12.BitsCounts': WHATEVER THE INPUT: true; the input reads as it did. -/
def bitsCountsSpec : ChangeSpec := { name := "bitsCounts", fn := fun _ => fun
  | [d1, d2] => { results := [.lit (.bool true)], args := [d1, d2] }
  | _ => none }
def bitsCountsRow : OpenClaim := { program := "ytklhnibmpdaioaa", sum := "ab25cf6598ec5909b98f24d03c1203ff32df996f643103a4681e267fac357cb7", func := "casemate/casematelaw12.BitsCounts", spec := "bitsCounts", inPlace := ["maps.clone"], apart := false }
def BitsCountsSaid : Prop := bitsCountsRow.holds Try.pinned (OpenSpec.ofChange bitsCountsSpec)

/-- ITS FALSE NEIGHBOUR: 'it returns false'. Refute it at one input. -/
def bitsCountsWrong : ChangeSpec := { name := "bitsCounts", fn := fun _ => fun
  | [d1, d2] => { results := [.lit (.bool false)], args := [d1, d2] }
  | _ => none }
def BitsCountsWrongFalsely : Prop := bitsCountsRow.holds Try.pinned (OpenSpec.ofChange bitsCountsWrong)

/-- 'casematelaw12.BitsFirst': WHATEVER THE INPUT: true; the input reads as it did. -/
def bitsFirstSpec : ChangeSpec := { name := "bitsFirst", fn := fun _ => fun
  | [d1, d2] => { results := [.lit (.bool true)], args := [d1, d2] }
  | _ => none }
def bitsFirstRow : OpenClaim := { program := "ytklhnibmpdaioaa", sum := "ab25cf6598ec5909b98f24d03c1203ff32df996f643103a4681e267fac357cb7", func := "casemate/casematelaw12.BitsFirst", spec := "bitsFirst", apart := false }
def BitsFirstSaid : Prop := bitsFirstRow.holds Try.pinned (OpenSpec.ofChange bitsFirstSpec)

/-- ITS FALSE NEIGHBOUR: 'it returns false'. Refute it at one input. -/
def bitsFirstWrong : ChangeSpec := { name := "bitsFirst", fn := fun _ => fun
  | [d1, d2] => { results := [.lit (.bool false)], args := [d1, d2] }
  | _ => none }
def BitsFirstWrongFalsely : Prop := bitsFirstRow.holds Try.pinned (OpenSpec.ofChange bitsFirstWrong)

/-- 'casematelaw12.BitsClones': WHATEVER THE INPUT: true; the input reads as it did. -/
def bitsClonesSpec : ChangeSpec := { name := "bitsClones", fn := fun _ => fun
  | [d1, d2] => { results := [.lit (.bool true)], args := [d1, d2] }
  | _ => none }
def bitsClonesRow : OpenClaim := { program := "ytklhnibmpdaioaa", sum := "ab25cf6598ec5909b98f24d03c1203ff32df996f643103a4681e267fac357cb7", func := "casemate/casematelaw12.BitsClones", spec := "bitsClones", inPlace := ["maps.clone"], apart := false }
def BitsClonesSaid : Prop := bitsClonesRow.holds Try.pinned (OpenSpec.ofChange bitsClonesSpec)

/-- ITS FALSE NEIGHBOUR: 'it returns false'. Refute it at one input. -/
def bitsClonesWrong : ChangeSpec := { name := "bitsClones", fn := fun _ => fun
  | [d1, d2] => { results := [.lit (.bool false)], args := [d1, d2] }
  | _ => none }
def BitsClonesWrongFalsely : Prop := bitsClonesRow.holds Try.pinned (OpenSpec.ofChange bitsClonesWrong)

/- THE SECOND FORM. 'bulk': how many values and letters a reading holds, each counted each time it is reached (what is shared counts as often as it is met; a slice's spare places count too). A statement '..UptoSaid' is the law's where the arguments, and the package variables that the reading takes, are together of bulk at most 1048576: NARROWER than '..Said'. Prove '..Said' where nothing that the law and all that it calls make is longer than what came in: it says more and counts as full. Else prove '..UptoSaid'. A law counts once. -/
mutual
def uptoBulk {H : Type} : DataW H → Nat
  | .lit (.string bytes) => bytes.length + 1
  | .lit _ => 1
  | .nil => 1
  | .ptr d => uptoBulk d + 1
  | .slice elems spare => uptoBulkAll elems + uptoBulkAll spare + 1
  | .agg parts => uptoBulkAll parts + 1
  | .iface _ d => uptoBulk d + 1
  | .map entries => uptoBulkEntries entries + 1
  | .held _ => 1
def uptoBulkAll {H : Type} : List (DataW H) → Nat
  | [] => 0
  | d :: r => uptoBulk d + uptoBulkAll r
def uptoBulkEntries {H : Type} : List (Lit × DataW H) → Nat
  | [] => 0
  | x :: r => uptoBulkEntry x + uptoBulkEntries r
def uptoBulkEntry {H : Type} : Lit × DataW H → Nat
  | (.string bytes, d) => bytes.length + uptoBulk d + 1
  | (_, d) => uptoBulk d + 1
 end
def uptoSmall : (H : Type) → List (DataW H) → Bool := fun _ ds => decide (uptoBulkAll ds ≤ 1048576)
def OpenSpec.upto (s : _root_.Go.ChangeSpec) : _root_.Go.OpenSpec := { _root_.Go.OpenSpec.ofChange s with cond := some uptoSmall }

/-- 'casematelaw11.DiskLives', WHERE WHAT IT READS IS OF BULK AT MOST 1048576: true; the input reads as it did. -/
def diskLivesUptoRow : OpenClaim := { program := "ytklhnibmpdaioaa", sum := "ab25cf6598ec5909b98f24d03c1203ff32df996f643103a4681e267fac357cb7", func := "casemate/casematelaw11.DiskLives", spec := "diskLives", unfollowed := true, recurses := true, apart := false, narrowed := true }
def DiskLivesUptoSaid : Prop := diskLivesUptoRow.holds Try.pinned (OpenSpec.upto diskLivesSpec)

/-- 'casematelaw11.DiskNobody', WHERE WHAT IT READS IS OF BULK AT MOST 1048576: true; the input reads as it did. -/
def diskNobodyUptoRow : OpenClaim := { program := "ytklhnibmpdaioaa", sum := "ab25cf6598ec5909b98f24d03c1203ff32df996f643103a4681e267fac357cb7", func := "casemate/casematelaw11.DiskNobody", spec := "diskNobody", unfollowed := true, recurses := true, apart := false, narrowed := true }
def DiskNobodyUptoSaid : Prop := diskNobodyUptoRow.holds Try.pinned (OpenSpec.upto diskNobodySpec)

/-- 'casematelaw11.DiskLasts', WHERE WHAT IT READS IS OF BULK AT MOST 1048576: true; the input reads as it did. -/
def diskLastsUptoRow : OpenClaim := { program := "ytklhnibmpdaioaa", sum := "ab25cf6598ec5909b98f24d03c1203ff32df996f643103a4681e267fac357cb7", func := "casemate/casematelaw11.DiskLasts", spec := "diskLasts", unfollowed := true, recurses := true, apart := false, narrowed := true }
def DiskLastsUptoSaid : Prop := diskLastsUptoRow.holds Try.pinned (OpenSpec.upto diskLastsSpec)

/-- 'casematelaw11.DiskShows', WHERE WHAT IT READS IS OF BULK AT MOST 1048576: true; the input reads as it did. -/
def diskShowsUptoRow : OpenClaim := { program := "ytklhnibmpdaioaa", sum := "ab25cf6598ec5909b98f24d03c1203ff32df996f643103a4681e267fac357cb7", func := "casemate/casematelaw11.DiskShows", spec := "diskShows", unfollowed := true, recurses := true, apart := false, narrowed := true }
def DiskShowsUptoSaid : Prop := diskShowsUptoRow.holds Try.pinned (OpenSpec.upto diskShowsSpec)

/-- 'casematelaw11.DiskDown', WHERE WHAT IT READS IS OF BULK AT MOST 1048576: true; the input reads as it did. -/
def diskDownUptoRow : OpenClaim := { program := "ytklhnibmpdaioaa", sum := "ab25cf6598ec5909b98f24d03c1203ff32df996f643103a4681e267fac357cb7", func := "casemate/casematelaw11.DiskDown", spec := "diskDown", unfollowed := true, recurses := true, apart := false, narrowed := true }
def DiskDownUptoSaid : Prop := diskDownUptoRow.holds Try.pinned (OpenSpec.upto diskDownSpec)

/-- 'casematelaw12.BitsLives', WHERE WHAT IT READS IS OF BULK AT MOST 1048576: true; the input reads as it did. -/
def bitsLivesUptoRow : OpenClaim := { program := "ytklhnibmpdaioaa", sum := "ab25cf6598ec5909b98f24d03c1203ff32df996f643103a4681e267fac357cb7", func := "casemate/casematelaw12.BitsLives", spec := "bitsLives", apart := false, narrowed := true }
def BitsLivesUptoSaid : Prop := bitsLivesUptoRow.holds Try.pinned (OpenSpec.upto bitsLivesSpec)

/-- 'casematelaw12.BitsNobody', WHERE WHAT IT READS IS OF BULK AT MOST 1048576: true; the input reads as it did. -/
def bitsNobodyUptoRow : OpenClaim := { program := "ytklhnibmpdaioaa", sum := "ab25cf6598ec5909b98f24d03c1203ff32df996f643103a4681e267fac357cb7", func := "casemate/casematelaw12.BitsNobody", spec := "bitsNobody", inPlace := ["maps.clone"], apart := false, narrowed := true }
def BitsNobodyUptoSaid : Prop := bitsNobodyUptoRow.holds Try.pinned (OpenSpec.upto bitsNobodySpec)

/-- 'casematelaw12.BitsCounts', WHERE WHAT IT READS IS OF BULK AT MOST 1048576: true; the input reads as it did. -/
def bitsCountsUptoRow : OpenClaim := { program := "ytklhnibmpdaioaa", sum := "ab25cf6598ec5909b98f24d03c1203ff32df996f643103a4681e267fac357cb7", func := "casemate/casematelaw12.BitsCounts", spec := "bitsCounts", inPlace := ["maps.clone"], apart := false, narrowed := true }
def BitsCountsUptoSaid : Prop := bitsCountsUptoRow.holds Try.pinned (OpenSpec.upto bitsCountsSpec)

/-- 'casematelaw12.BitsFirst', WHERE WHAT IT READS IS OF BULK AT MOST 1048576: true; the input reads as it did. -/
def bitsFirstUptoRow : OpenClaim := { program := "ytklhnibmpdaioaa", sum := "ab25cf6598ec5909b98f24d03c1203ff32df996f643103a4681e267fac357cb7", func := "casemate/casematelaw12.BitsFirst", spec := "bitsFirst", apart := false, narrowed := true }
def BitsFirstUptoSaid : Prop := bitsFirstUptoRow.holds Try.pinned (OpenSpec.upto bitsFirstSpec)

/-- 'casematelaw12.BitsClones', WHERE WHAT IT READS IS OF BULK AT MOST 1048576: true; the input reads as it did. -/
def bitsClonesUptoRow : OpenClaim := { program := "ytklhnibmpdaioaa", sum := "ab25cf6598ec5909b98f24d03c1203ff32df996f643103a4681e267fac357cb7", func := "casemate/casematelaw12.BitsClones", spec := "bitsClones", inPlace := ["maps.clone"], apart := false, narrowed := true }
def BitsClonesUptoSaid : Prop := bitsClonesUptoRow.holds Try.pinned (OpenSpec.upto bitsClonesSpec)

end Rows
end Go.Proofs.Ytklhnibmpdaioaa
