/-
  No cell of these rows narrows 'for every input' (looked for: loops, veiled, ifaces, maps, wideKeys, modest, calm, conditions, laid).
  DERIVED. THE GIVEN ROWS OF THIS SEAT. 15 by the template 'for every input the law returns true; each argument reads behind the call as it read before'; 0 by the template 'total and deterministic' (their statements: YtcangpdcdodkdaaTotals.lean).
  GIVEN WITH THE SEED: the statements are not yours to turn. If you find one false, say at which input.
  Laid BY PROGRAM, IN A SANDBOX (cutbox-rows.mjs): the forced cells as the released guide's own fill.sh prints them over the translation f05d6f5e7e20c5c4… (all of the seat's roots in one cut). By AI agents, Wed Nov 11 2026. No macro, syntax, notation, axiom, sorry.
-/
import Derived.Test.YtcangpdcdodkdaaChecked
import GoSem.Claim
import GoSem.ClaimJoined
import GoSem.ClaimMapViews
import Derived.JoinedTies
import Derived.KernelRfl
namespace Go.Proofs.Ytcangpdcdodkdaa
/- THE CELL 'sum', in the pinned program and in every row, IS THE sha256 OF THE DUMP (.gsa) THAT YtcangpdcdodkdaaProg.lean LOADS. Nothing in Lean hashes anything: it is a label: what it is worth is what the hold of that sum in a sandbox is worth. -/
noncomputable def Try.pinned : Pinned := { name := "ytcangpdcdodkdaa", sum := "f05d6f5e7e20c5c4ecc97308e30404922b35daa0c0f502ec858f08dcb939c2c6", checked := Try.checked }
namespace Rows
def none {H : Type} : Left H := { results := [], args := [] }

/-- 'casematelaw04.GfProducts': WHATEVER THE INPUT: true; the input reads as it did. -/
def gfProductsSpec : ChangeSpec := { name := "gfProducts", fn := fun _ => fun
  | [d1, d2, d3] => { results := [.lit (.bool true)], args := [d1, d2, d3] }
  | _ => none }
def gfProductsRow : OpenClaim := { program := "ytcangpdcdodkdaa", sum := "f05d6f5e7e20c5c4ecc97308e30404922b35daa0c0f502ec858f08dcb939c2c6", func := "casemate/casematelaw04.GfProducts", spec := "gfProducts", apart := false }
def GfProductsSaid : Prop := gfProductsRow.holds Try.pinned (OpenSpec.ofChange gfProductsSpec)

/-- ITS FALSE NEIGHBOUR: 'it returns false'. Refute it at one input. -/
def gfProductsWrong : ChangeSpec := { name := "gfProducts", fn := fun _ => fun
  | [d1, d2, d3] => { results := [.lit (.bool false)], args := [d1, d2, d3] }
  | _ => none }
def GfProductsWrongFalsely : Prop := gfProductsRow.holds Try.pinned (OpenSpec.ofChange gfProductsWrong)

/-- 'casematelaw04.GfBoxes': WHATEVER THE INPUT: true; the input reads as it did. -/
def gfBoxesSpec : ChangeSpec := { name := "gfBoxes", fn := fun _ => fun
  | [d] => { results := [.lit (.bool true)], args := [d] }
  | _ => none }
def gfBoxesRow : OpenClaim := { program := "ytcangpdcdodkdaa", sum := "f05d6f5e7e20c5c4ecc97308e30404922b35daa0c0f502ec858f08dcb939c2c6", func := "casemate/casematelaw04.GfBoxes", spec := "gfBoxes", apart := false }
def GfBoxesSaid : Prop := gfBoxesRow.holds Try.pinned (OpenSpec.ofChange gfBoxesSpec)

/-- ITS FALSE NEIGHBOUR: 'it returns false'. Refute it at one input. -/
def gfBoxesWrong : ChangeSpec := { name := "gfBoxes", fn := fun _ => fun
  | [d] => { results := [.lit (.bool false)], args := [d] }
  | _ => none }
def GfBoxesWrongFalsely : Prop := gfBoxesRow.holds Try.pinned (OpenSpec.ofChange gfBoxesWrong)

/-- 'casematelaw04.GfRing': WHATEVER THE INPUT: true; the input reads as it did. -/
def gfRingSpec : ChangeSpec := { name := "gfRing", fn := fun _ => fun
  | [d1, d2, d3] => { results := [.lit (.bool true)], args := [d1, d2, d3] }
  | _ => none }
def gfRingRow : OpenClaim := { program := "ytcangpdcdodkdaa", sum := "f05d6f5e7e20c5c4ecc97308e30404922b35daa0c0f502ec858f08dcb939c2c6", func := "casemate/casematelaw04.GfRing", spec := "gfRing", apart := false }
def GfRingSaid : Prop := gfRingRow.holds Try.pinned (OpenSpec.ofChange gfRingSpec)

/-- ITS FALSE NEIGHBOUR: 'it returns false'. Refute it at one input. -/
def gfRingWrong : ChangeSpec := { name := "gfRing", fn := fun _ => fun
  | [d1, d2, d3] => { results := [.lit (.bool false)], args := [d1, d2, d3] }
  | _ => none }
def GfRingWrongFalsely : Prop := gfRingRow.holds Try.pinned (OpenSpec.ofChange gfRingWrong)

/-- 'casematelaw04.GfBack': WHATEVER THE INPUT: true; the input reads as it did. -/
def gfBackSpec : ChangeSpec := { name := "gfBack", fn := fun _ => fun
  | [d1, d2] => { results := [.lit (.bool true)], args := [d1, d2] }
  | _ => none }
def gfBackRow : OpenClaim := { program := "ytcangpdcdodkdaa", sum := "f05d6f5e7e20c5c4ecc97308e30404922b35daa0c0f502ec858f08dcb939c2c6", func := "casemate/casematelaw04.GfBack", spec := "gfBack", apart := false }
def GfBackSaid : Prop := gfBackRow.holds Try.pinned (OpenSpec.ofChange gfBackSpec)

/-- ITS FALSE NEIGHBOUR: 'it returns false'. Refute it at one input. -/
def gfBackWrong : ChangeSpec := { name := "gfBack", fn := fun _ => fun
  | [d1, d2] => { results := [.lit (.bool false)], args := [d1, d2] }
  | _ => none }
def GfBackWrongFalsely : Prop := gfBackRow.holds Try.pinned (OpenSpec.ofChange gfBackWrong)

/-- 'casematelaw04.GfOnto': WHATEVER THE INPUT: true; the input reads as it did. -/
def gfOntoSpec : ChangeSpec := { name := "gfOnto", fn := fun _ => fun
  | [d1, d2] => { results := [.lit (.bool true)], args := [d1, d2] }
  | _ => none }
def gfOntoRow : OpenClaim := { program := "ytcangpdcdodkdaa", sum := "f05d6f5e7e20c5c4ecc97308e30404922b35daa0c0f502ec858f08dcb939c2c6", func := "casemate/casematelaw04.GfOnto", spec := "gfOnto", apart := false }
def GfOntoSaid : Prop := gfOntoRow.holds Try.pinned (OpenSpec.ofChange gfOntoSpec)

/-- ITS FALSE NEIGHBOUR: 'it returns false'. Refute it at one input. -/
def gfOntoWrong : ChangeSpec := { name := "gfOnto", fn := fun _ => fun
  | [d1, d2] => { results := [.lit (.bool false)], args := [d1, d2] }
  | _ => none }
def GfOntoWrongFalsely : Prop := gfOntoRow.holds Try.pinned (OpenSpec.ofChange gfOntoWrong)

/-- 'casematelaw05.AesWords': WHATEVER THE INPUT: true; the input reads as it did. -/
def aesWordsSpec : ChangeSpec := { name := "aesWords", fn := fun _ => fun
  | [d] => { results := [.lit (.bool true)], args := [d] }
  | _ => none }
def aesWordsRow : OpenClaim := { program := "ytcangpdcdodkdaa", sum := "f05d6f5e7e20c5c4ecc97308e30404922b35daa0c0f502ec858f08dcb939c2c6", func := "casemate/casematelaw05.AesWords", spec := "aesWords", unfollowed := true, recurses := true, apart := false }
def AesWordsSaid : Prop := aesWordsRow.holds Try.pinned (OpenSpec.ofChange aesWordsSpec)

/-- ITS FALSE NEIGHBOUR: 'it returns false'. Refute it at one input. -/
def aesWordsWrong : ChangeSpec := { name := "aesWords", fn := fun _ => fun
  | [d] => { results := [.lit (.bool false)], args := [d] }
  | _ => none }
def AesWordsWrongFalsely : Prop := aesWordsRow.holds Try.pinned (OpenSpec.ofChange aesWordsWrong)

/-- 'casematelaw05.AesTurns': WHATEVER THE INPUT: true; the input reads as it did. -/
def aesTurnsSpec : ChangeSpec := { name := "aesTurns", fn := fun _ => fun
  | [d1, d2] => { results := [.lit (.bool true)], args := [d1, d2] }
  | _ => none }
def aesTurnsRow : OpenClaim := { program := "ytcangpdcdodkdaa", sum := "f05d6f5e7e20c5c4ecc97308e30404922b35daa0c0f502ec858f08dcb939c2c6", func := "casemate/casematelaw05.AesTurns", spec := "aesTurns", unfollowed := true, recurses := true, apart := false }
def AesTurnsSaid : Prop := aesTurnsRow.holds Try.pinned (OpenSpec.ofChange aesTurnsSpec)

/-- ITS FALSE NEIGHBOUR: 'it returns false'. Refute it at one input. -/
def aesTurnsWrong : ChangeSpec := { name := "aesTurns", fn := fun _ => fun
  | [d1, d2] => { results := [.lit (.bool false)], args := [d1, d2] }
  | _ => none }
def AesTurnsWrongFalsely : Prop := aesTurnsRow.holds Try.pinned (OpenSpec.ofChange aesTurnsWrong)

/-- 'casematelaw05.AesBack': WHATEVER THE INPUT: true; the input reads as it did. -/
def aesBackSpec : ChangeSpec := { name := "aesBack", fn := fun _ => fun
  | [d1, d2] => { results := [.lit (.bool true)], args := [d1, d2] }
  | _ => none }
def aesBackRow : OpenClaim := { program := "ytcangpdcdodkdaa", sum := "f05d6f5e7e20c5c4ecc97308e30404922b35daa0c0f502ec858f08dcb939c2c6", func := "casemate/casematelaw05.AesBack", spec := "aesBack", unfollowed := true, recurses := true, apart := false }
def AesBackSaid : Prop := aesBackRow.holds Try.pinned (OpenSpec.ofChange aesBackSpec)

/-- ITS FALSE NEIGHBOUR: 'it returns false'. Refute it at one input. -/
def aesBackWrong : ChangeSpec := { name := "aesBack", fn := fun _ => fun
  | [d1, d2] => { results := [.lit (.bool false)], args := [d1, d2] }
  | _ => none }
def AesBackWrongFalsely : Prop := aesBackRow.holds Try.pinned (OpenSpec.ofChange aesBackWrong)

/-- 'casematelaw05.AesApart': WHATEVER THE INPUT: true; the input reads as it did. -/
def aesApartSpec : ChangeSpec := { name := "aesApart", fn := fun _ => fun
  | [d1, d2, d3] => { results := [.lit (.bool true)], args := [d1, d2, d3] }
  | _ => none }
def aesApartRow : OpenClaim := { program := "ytcangpdcdodkdaa", sum := "f05d6f5e7e20c5c4ecc97308e30404922b35daa0c0f502ec858f08dcb939c2c6", func := "casemate/casematelaw05.AesApart", spec := "aesApart", unfollowed := true, recurses := true, apart := false }
def AesApartSaid : Prop := aesApartRow.holds Try.pinned (OpenSpec.ofChange aesApartSpec)

/-- ITS FALSE NEIGHBOUR: 'it returns false'. Refute it at one input. -/
def aesApartWrong : ChangeSpec := { name := "aesApart", fn := fun _ => fun
  | [d1, d2, d3] => { results := [.lit (.bool false)], args := [d1, d2, d3] }
  | _ => none }
def AesApartWrongFalsely : Prop := aesApartRow.holds Try.pinned (OpenSpec.ofChange aesApartWrong)

/-- 'casematelaw05.AesKeys': WHATEVER THE INPUT: true; the input reads as it did. -/
def aesKeysSpec : ChangeSpec := { name := "aesKeys", fn := fun _ => fun
  | [d] => { results := [.lit (.bool true)], args := [d] }
  | _ => none }
def aesKeysRow : OpenClaim := { program := "ytcangpdcdodkdaa", sum := "f05d6f5e7e20c5c4ecc97308e30404922b35daa0c0f502ec858f08dcb939c2c6", func := "casemate/casematelaw05.AesKeys", spec := "aesKeys", unfollowed := true, recurses := true, apart := false }
def AesKeysSaid : Prop := aesKeysRow.holds Try.pinned (OpenSpec.ofChange aesKeysSpec)

/-- ITS FALSE NEIGHBOUR: 'it returns false'. Refute it at one input. -/
def aesKeysWrong : ChangeSpec := { name := "aesKeys", fn := fun _ => fun
  | [d] => { results := [.lit (.bool false)], args := [d] }
  | _ => none }
def AesKeysWrongFalsely : Prop := aesKeysRow.holds Try.pinned (OpenSpec.ofChange aesKeysWrong)

/-- 'casematelaw06.XtsMasks': WHATEVER THE INPUT: true; the input reads as it did. -/
def xtsMasksSpec : ChangeSpec := { name := "xtsMasks", fn := fun _ => fun
  | [d1, d2] => { results := [.lit (.bool true)], args := [d1, d2] }
  | _ => none }
def xtsMasksRow : OpenClaim := { program := "ytcangpdcdodkdaa", sum := "f05d6f5e7e20c5c4ecc97308e30404922b35daa0c0f502ec858f08dcb939c2c6", func := "casemate/casematelaw06.XtsMasks", spec := "xtsMasks", unfollowed := true, recurses := true, apart := false }
def XtsMasksSaid : Prop := xtsMasksRow.holds Try.pinned (OpenSpec.ofChange xtsMasksSpec)

/-- ITS FALSE NEIGHBOUR: 'it returns false'. Refute it at one input. -/
def xtsMasksWrong : ChangeSpec := { name := "xtsMasks", fn := fun _ => fun
  | [d1, d2] => { results := [.lit (.bool false)], args := [d1, d2] }
  | _ => none }
def XtsMasksWrongFalsely : Prop := xtsMasksRow.holds Try.pinned (OpenSpec.ofChange xtsMasksWrong)

/-- 'casematelaw06.XtsSectors': WHATEVER THE INPUT: true; the input reads as it did. -/
def xtsSectorsSpec : ChangeSpec := { name := "xtsSectors", fn := fun _ => fun
  | [d1, d2, d3, d4] => { results := [.lit (.bool true)], args := [d1, d2, d3, d4] }
  | _ => none }
def xtsSectorsRow : OpenClaim := { program := "ytcangpdcdodkdaa", sum := "f05d6f5e7e20c5c4ecc97308e30404922b35daa0c0f502ec858f08dcb939c2c6", func := "casemate/casematelaw06.XtsSectors", spec := "xtsSectors", unfollowed := true, recurses := true, apart := false }
def XtsSectorsSaid : Prop := xtsSectorsRow.holds Try.pinned (OpenSpec.ofChange xtsSectorsSpec)

/-- ITS FALSE NEIGHBOUR: 'it returns false'. Refute it at one input. -/
def xtsSectorsWrong : ChangeSpec := { name := "xtsSectors", fn := fun _ => fun
  | [d1, d2, d3, d4] => { results := [.lit (.bool false)], args := [d1, d2, d3, d4] }
  | _ => none }
def XtsSectorsWrongFalsely : Prop := xtsSectorsRow.holds Try.pinned (OpenSpec.ofChange xtsSectorsWrong)

/-- 'casematelaw06.XtsBack': WHATEVER THE INPUT: true; the input reads as it did. -/
def xtsBackSpec : ChangeSpec := { name := "xtsBack", fn := fun _ => fun
  | [d1, d2, d3, d4] => { results := [.lit (.bool true)], args := [d1, d2, d3, d4] }
  | _ => none }
def xtsBackRow : OpenClaim := { program := "ytcangpdcdodkdaa", sum := "f05d6f5e7e20c5c4ecc97308e30404922b35daa0c0f502ec858f08dcb939c2c6", func := "casemate/casematelaw06.XtsBack", spec := "xtsBack", unfollowed := true, recurses := true, apart := false }
def XtsBackSaid : Prop := xtsBackRow.holds Try.pinned (OpenSpec.ofChange xtsBackSpec)

/-- ITS FALSE NEIGHBOUR: 'it returns false'. Refute it at one input. -/
def xtsBackWrong : ChangeSpec := { name := "xtsBack", fn := fun _ => fun
  | [d1, d2, d3, d4] => { results := [.lit (.bool false)], args := [d1, d2, d3, d4] }
  | _ => none }
def XtsBackWrongFalsely : Prop := xtsBackRow.holds Try.pinned (OpenSpec.ofChange xtsBackWrong)

/-- 'casematelaw06.XtsBlocks': WHATEVER THE INPUT: true; the input reads as it did. -/
def xtsBlocksSpec : ChangeSpec := { name := "xtsBlocks", fn := fun _ => fun
  | [d1, d2, d3, d4, d5] => { results := [.lit (.bool true)], args := [d1, d2, d3, d4, d5] }
  | _ => none }
def xtsBlocksRow : OpenClaim := { program := "ytcangpdcdodkdaa", sum := "f05d6f5e7e20c5c4ecc97308e30404922b35daa0c0f502ec858f08dcb939c2c6", func := "casemate/casematelaw06.XtsBlocks", spec := "xtsBlocks", unfollowed := true, recurses := true, apart := false }
def XtsBlocksSaid : Prop := xtsBlocksRow.holds Try.pinned (OpenSpec.ofChange xtsBlocksSpec)

/-- ITS FALSE NEIGHBOUR: 'it returns false'. Refute it at one input. -/
def xtsBlocksWrong : ChangeSpec := { name := "xtsBlocks", fn := fun _ => fun
  | [d1, d2, d3, d4, d5] => { results := [.lit (.bool false)], args := [d1, d2, d3, d4, d5] }
  | _ => none }
def XtsBlocksWrongFalsely : Prop := xtsBlocksRow.holds Try.pinned (OpenSpec.ofChange xtsBlocksWrong)

/-- 'casematelaw06.XtsTweaks': WHATEVER THE INPUT: true; the input reads as it did. -/
def xtsTweaksSpec : ChangeSpec := { name := "xtsTweaks", fn := fun _ => fun
  | [d1, d2, d3, d4] => { results := [.lit (.bool true)], args := [d1, d2, d3, d4] }
  | _ => none }
def xtsTweaksRow : OpenClaim := { program := "ytcangpdcdodkdaa", sum := "f05d6f5e7e20c5c4ecc97308e30404922b35daa0c0f502ec858f08dcb939c2c6", func := "casemate/casematelaw06.XtsTweaks", spec := "xtsTweaks", unfollowed := true, recurses := true, apart := false }
def XtsTweaksSaid : Prop := xtsTweaksRow.holds Try.pinned (OpenSpec.ofChange xtsTweaksSpec)

/-- ITS FALSE NEIGHBOUR: 'it returns false'. Refute it at one input. -/
def xtsTweaksWrong : ChangeSpec := { name := "xtsTweaks", fn := fun _ => fun
  | [d1, d2, d3, d4] => { results := [.lit (.bool false)], args := [d1, d2, d3, d4] }
  | _ => none }
def XtsTweaksWrongFalsely : Prop := xtsTweaksRow.holds Try.pinned (OpenSpec.ofChange xtsTweaksWrong)

/- THE SECOND FORM. 'bulk': how many values and letters a reading holds, each counted each time it is reached (what is shared counts as often as it is met; a slice's spare places count too). A statement '..UptoSaid' is the law's where the arguments, and the package variables that the reading takes, are together of bulk at most 1048576: NARROWER than '..Said'. Prove '..Said' where nothing that the law and all that it calls make is longer than what came in: it says more and counts as full. Else prove '..UptoSaid'. A law counts once. -/
mutual
def uptoBulk {H : Type} : DataW H → Nat
  | .lit (.string bytes) => bytes.length + 1
  | .lit _ => 1
  | .nil => 1
  | .ptr d => uptoBulk d + 1
  | .slice elems spare => uptoBulkAll elems + uptoBulkAll spare + 1
  | .agg parts => uptoBulkAll parts + 1
  | .iface _ d => uptoBulk d + 1
  | .map entries => uptoBulkEntries entries + 1
  | .held _ => 1
def uptoBulkAll {H : Type} : List (DataW H) → Nat
  | [] => 0
  | d :: r => uptoBulk d + uptoBulkAll r
def uptoBulkEntries {H : Type} : List (Lit × DataW H) → Nat
  | [] => 0
  | x :: r => uptoBulkEntry x + uptoBulkEntries r
def uptoBulkEntry {H : Type} : Lit × DataW H → Nat
  | (.string bytes, d) => bytes.length + uptoBulk d + 1
  | (_, d) => uptoBulk d + 1
 end
def uptoSmall : (H : Type) → List (DataW H) → Bool := fun _ ds => decide (uptoBulkAll ds ≤ 1048576)
def OpenSpec.upto (s : _root_.Go.ChangeSpec) : _root_.Go.OpenSpec := { _root_.Go.OpenSpec.ofChange s with cond := some uptoSmall }

/-- 'casematelaw04.GfProducts', WHERE WHAT IT READS IS OF BULK AT MOST 1048576: true; the input reads as it did. -/
def gfProductsUptoRow : OpenClaim := { program := "ytcangpdcdodkdaa", sum := "f05d6f5e7e20c5c4ecc97308e30404922b35daa0c0f502ec858f08dcb939c2c6", func := "casemate/casematelaw04.GfProducts", spec := "gfProducts", apart := false, narrowed := true }
def GfProductsUptoSaid : Prop := gfProductsUptoRow.holds Try.pinned (OpenSpec.upto gfProductsSpec)

/-- 'casematelaw04.GfBoxes', WHERE WHAT IT READS IS OF BULK AT MOST 1048576: true; the input reads as it did. -/
def gfBoxesUptoRow : OpenClaim := { program := "ytcangpdcdodkdaa", sum := "f05d6f5e7e20c5c4ecc97308e30404922b35daa0c0f502ec858f08dcb939c2c6", func := "casemate/casematelaw04.GfBoxes", spec := "gfBoxes", apart := false, narrowed := true }
def GfBoxesUptoSaid : Prop := gfBoxesUptoRow.holds Try.pinned (OpenSpec.upto gfBoxesSpec)

/-- 'casematelaw04.GfRing', WHERE WHAT IT READS IS OF BULK AT MOST 1048576: true; the input reads as it did. -/
def gfRingUptoRow : OpenClaim := { program := "ytcangpdcdodkdaa", sum := "f05d6f5e7e20c5c4ecc97308e30404922b35daa0c0f502ec858f08dcb939c2c6", func := "casemate/casematelaw04.GfRing", spec := "gfRing", apart := false, narrowed := true }
def GfRingUptoSaid : Prop := gfRingUptoRow.holds Try.pinned (OpenSpec.upto gfRingSpec)

/-- 'casematelaw04.GfBack', WHERE WHAT IT READS IS OF BULK AT MOST 1048576: true; the input reads as it did. -/
def gfBackUptoRow : OpenClaim := { program := "ytcangpdcdodkdaa", sum := "f05d6f5e7e20c5c4ecc97308e30404922b35daa0c0f502ec858f08dcb939c2c6", func := "casemate/casematelaw04.GfBack", spec := "gfBack", apart := false, narrowed := true }
def GfBackUptoSaid : Prop := gfBackUptoRow.holds Try.pinned (OpenSpec.upto gfBackSpec)

/-- 'casematelaw04.GfOnto', WHERE WHAT IT READS IS OF BULK AT MOST 1048576: true; the input reads as it did. -/
def gfOntoUptoRow : OpenClaim := { program := "ytcangpdcdodkdaa", sum := "f05d6f5e7e20c5c4ecc97308e30404922b35daa0c0f502ec858f08dcb939c2c6", func := "casemate/casematelaw04.GfOnto", spec := "gfOnto", apart := false, narrowed := true }
def GfOntoUptoSaid : Prop := gfOntoUptoRow.holds Try.pinned (OpenSpec.upto gfOntoSpec)

/-- 'casematelaw05.AesWords', WHERE WHAT IT READS IS OF BULK AT MOST 1048576: true; the input reads as it did. -/
def aesWordsUptoRow : OpenClaim := { program := "ytcangpdcdodkdaa", sum := "f05d6f5e7e20c5c4ecc97308e30404922b35daa0c0f502ec858f08dcb939c2c6", func := "casemate/casematelaw05.AesWords", spec := "aesWords", unfollowed := true, recurses := true, apart := false, narrowed := true }
def AesWordsUptoSaid : Prop := aesWordsUptoRow.holds Try.pinned (OpenSpec.upto aesWordsSpec)

/-- 'casematelaw05.AesTurns', WHERE WHAT IT READS IS OF BULK AT MOST 1048576: true; the input reads as it did. -/
def aesTurnsUptoRow : OpenClaim := { program := "ytcangpdcdodkdaa", sum := "f05d6f5e7e20c5c4ecc97308e30404922b35daa0c0f502ec858f08dcb939c2c6", func := "casemate/casematelaw05.AesTurns", spec := "aesTurns", unfollowed := true, recurses := true, apart := false, narrowed := true }
def AesTurnsUptoSaid : Prop := aesTurnsUptoRow.holds Try.pinned (OpenSpec.upto aesTurnsSpec)

/-- 'casematelaw05.AesBack', WHERE WHAT IT READS IS OF BULK AT MOST 1048576: true; the input reads as it did. -/
def aesBackUptoRow : OpenClaim := { program := "ytcangpdcdodkdaa", sum := "f05d6f5e7e20c5c4ecc97308e30404922b35daa0c0f502ec858f08dcb939c2c6", func := "casemate/casematelaw05.AesBack", spec := "aesBack", unfollowed := true, recurses := true, apart := false, narrowed := true }
def AesBackUptoSaid : Prop := aesBackUptoRow.holds Try.pinned (OpenSpec.upto aesBackSpec)

/-- 'casematelaw05.AesApart', WHERE WHAT IT READS IS OF BULK AT MOST 1048576: true; the input reads as it did. -/
def aesApartUptoRow : OpenClaim := { program := "ytcangpdcdodkdaa", sum := "f05d6f5e7e20c5c4ecc97308e30404922b35daa0c0f502ec858f08dcb939c2c6", func := "casemate/casematelaw05.AesApart", spec := "aesApart", unfollowed := true, recurses := true, apart := false, narrowed := true }
def AesApartUptoSaid : Prop := aesApartUptoRow.holds Try.pinned (OpenSpec.upto aesApartSpec)

/-- 'casematelaw05.AesKeys', WHERE WHAT IT READS IS OF BULK AT MOST 1048576: true; the input reads as it did. -/
def aesKeysUptoRow : OpenClaim := { program := "ytcangpdcdodkdaa", sum := "f05d6f5e7e20c5c4ecc97308e30404922b35daa0c0f502ec858f08dcb939c2c6", func := "casemate/casematelaw05.AesKeys", spec := "aesKeys", unfollowed := true, recurses := true, apart := false, narrowed := true }
def AesKeysUptoSaid : Prop := aesKeysUptoRow.holds Try.pinned (OpenSpec.upto aesKeysSpec)

/-- 'casematelaw06.XtsMasks', WHERE WHAT IT READS IS OF BULK AT MOST 1048576: true; the input reads as it did. -/
def xtsMasksUptoRow : OpenClaim := { program := "ytcangpdcdodkdaa", sum := "f05d6f5e7e20c5c4ecc97308e30404922b35daa0c0f502ec858f08dcb939c2c6", func := "casemate/casematelaw06.XtsMasks", spec := "xtsMasks", unfollowed := true, recurses := true, apart := false, narrowed := true }
def XtsMasksUptoSaid : Prop := xtsMasksUptoRow.holds Try.pinned (OpenSpec.upto xtsMasksSpec)

/-- 'casematelaw06.XtsSectors', WHERE WHAT IT READS IS OF BULK AT MOST 1048576: true; the input reads as it did. -/
def xtsSectorsUptoRow : OpenClaim := { program := "ytcangpdcdodkdaa", sum := "f05d6f5e7e20c5c4ecc97308e30404922b35daa0c0f502ec858f08dcb939c2c6", func := "casemate/casematelaw06.XtsSectors", spec := "xtsSectors", unfollowed := true, recurses := true, apart := false, narrowed := true }
def XtsSectorsUptoSaid : Prop := xtsSectorsUptoRow.holds Try.pinned (OpenSpec.upto xtsSectorsSpec)

/-- 'casematelaw06.XtsBack', WHERE WHAT IT READS IS OF BULK AT MOST 1048576: true; the input reads as it did. -/
def xtsBackUptoRow : OpenClaim := { program := "ytcangpdcdodkdaa", sum := "f05d6f5e7e20c5c4ecc97308e30404922b35daa0c0f502ec858f08dcb939c2c6", func := "casemate/casematelaw06.XtsBack", spec := "xtsBack", unfollowed := true, recurses := true, apart := false, narrowed := true }
def XtsBackUptoSaid : Prop := xtsBackUptoRow.holds Try.pinned (OpenSpec.upto xtsBackSpec)

/-- 'casematelaw06.XtsBlocks', WHERE WHAT IT READS IS OF BULK AT MOST 1048576: true; the input reads as it did. -/
def xtsBlocksUptoRow : OpenClaim := { program := "ytcangpdcdodkdaa", sum := "f05d6f5e7e20c5c4ecc97308e30404922b35daa0c0f502ec858f08dcb939c2c6", func := "casemate/casematelaw06.XtsBlocks", spec := "xtsBlocks", unfollowed := true, recurses := true, apart := false, narrowed := true }
def XtsBlocksUptoSaid : Prop := xtsBlocksUptoRow.holds Try.pinned (OpenSpec.upto xtsBlocksSpec)

/-- 'casematelaw06.XtsTweaks', WHERE WHAT IT READS IS OF BULK AT MOST 1048576: true; the input reads as it did. -/
def xtsTweaksUptoRow : OpenClaim := { program := "ytcangpdcdodkdaa", sum := "f05d6f5e7e20c5c4ecc97308e30404922b35daa0c0f502ec858f08dcb939c2c6", func := "casemate/casematelaw06.XtsTweaks", spec := "xtsTweaks", unfollowed := true, recurses := true, apart := false, narrowed := true }
def XtsTweaksUptoSaid : Prop := xtsTweaksUptoRow.holds Try.pinned (OpenSpec.upto xtsTweaksSpec)

end Rows
end Go.Proofs.Ytcangpdcdodkdaa
