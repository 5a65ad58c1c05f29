/-
  NARROWER THAN 'FOR EVERY INPUT', by the rows' own cells (each row's printed sentence says how): ShaSums: laid · ShaWrites: laid · ShaPieces: laid · ShaBoth: laid · HmacMarks: laid · HmacStreams: laid · HmacKeys: laid · HmacBegins: laid · HmacTurned: laid.
  DERIVED. THE GIVEN ROWS OF THIS SEAT. 9 by the template 'for every input the law returns true; each argument reads behind the call as it read before'; 0 by the template 'total and deterministic' (their statements: YtmkaagiabafooaaDoorTotals.lean).
  GIVEN WITH THE SEED: the statements are not yours to turn. If you find one false, say at which input.
  Laid BY PROGRAM, IN A SANDBOX (cutbox-rows.mjs): the forced cells as the released guide's own fill.sh prints them over the translation 8950a8f9fa861aad… (all of the seat's roots in one cut). By AI agents, Wed Nov 11 2026. No macro, syntax, notation, axiom, sorry.
-/
import Derived.Test.YtmkaagiabafooaaDoorChecked
import GoSem.Claim
import GoSem.ClaimJoined
import GoSem.ClaimMapViews
import Derived.JoinedTies
import Derived.KernelRfl
namespace Go.Proofs.YtmkaagiabafooaaDoor
/- THE CELL 'sum', in the pinned program and in every row, IS THE sha256 OF THE DUMP (.gsa) THAT YtmkaagiabafooaaDoorProg.lean LOADS. Nothing in Lean hashes anything: it is a label: what it is worth is what the hold of that sum in a sandbox is worth. -/
noncomputable def Tryd.pinned : Pinned := { name := "ytmkaagiabafooaadoor", sum := "8950a8f9fa861aad5eae862f81a4fe2bf9897f93eb3cd623098c6887359f8873", checked := Tryd.checked }
namespace Rows
def none {H : Type} : Left H := { results := [], args := [] }

/- WHAT THE LISTED PACKAGE-LEVEL VARIABLES READ AS WHEN THE CALL BEGINS. Each datum BY PROGRAM (the guide's laid-datum.mjs) off the statement by which the dump's own 'gosem.cut.vars' lays the variable. In a bare row this is a premise. The card (YtmkaagiabafooaaDoorCards.lean) ties it to the program's text. -/
def laid_casemate_sha_squareRoots {H : Type} : DataW H := .agg [.lit (.int .u32 1779033703), .lit (.int .u32 3144134277), .lit (.int .u32 1013904242), .lit (.int .u32 2773480762), .lit (.int .u32 1359893119), .lit (.int .u32 2600822924), .lit (.int .u32 528734635), .lit (.int .u32 1541459225)]
def laid_casemate_sha_cubeRoots {H : Type} : DataW H := .agg [.lit (.int .u32 1116352408), .lit (.int .u32 1899447441), .lit (.int .u32 3049323471), .lit (.int .u32 3921009573), .lit (.int .u32 961987163), .lit (.int .u32 1508970993), .lit (.int .u32 2453635748), .lit (.int .u32 2870763221), .lit (.int .u32 3624381080), .lit (.int .u32 310598401), .lit (.int .u32 607225278), .lit (.int .u32 1426881987), .lit (.int .u32 1925078388), .lit (.int .u32 2162078206), .lit (.int .u32 2614888103), .lit (.int .u32 3248222580), .lit (.int .u32 3835390401), .lit (.int .u32 4022224774), .lit (.int .u32 264347078), .lit (.int .u32 604807628), .lit (.int .u32 770255983), .lit (.int .u32 1249150122), .lit (.int .u32 1555081692), .lit (.int .u32 1996064986), .lit (.int .u32 2554220882), .lit (.int .u32 2821834349), .lit (.int .u32 2952996808), .lit (.int .u32 3210313671), .lit (.int .u32 3336571891), .lit (.int .u32 3584528711), .lit (.int .u32 113926993), .lit (.int .u32 338241895), .lit (.int .u32 666307205), .lit (.int .u32 773529912), .lit (.int .u32 1294757372), .lit (.int .u32 1396182291), .lit (.int .u32 1695183700), .lit (.int .u32 1986661051), .lit (.int .u32 2177026350), .lit (.int .u32 2456956037), .lit (.int .u32 2730485921), .lit (.int .u32 2820302411), .lit (.int .u32 3259730800), .lit (.int .u32 3345764771), .lit (.int .u32 3516065817), .lit (.int .u32 3600352804), .lit (.int .u32 4094571909), .lit (.int .u32 275423344), .lit (.int .u32 430227734), .lit (.int .u32 506948616), .lit (.int .u32 659060556), .lit (.int .u32 883997877), .lit (.int .u32 958139571), .lit (.int .u32 1322822218), .lit (.int .u32 1537002063), .lit (.int .u32 1747873779), .lit (.int .u32 1955562222), .lit (.int .u32 2024104815), .lit (.int .u32 2227730452), .lit (.int .u32 2361852424), .lit (.int .u32 2428436474), .lit (.int .u32 2756734187), .lit (.int .u32 3204031479), .lit (.int .u32 3329325298)]

/-- 'casematelaw02.ShaSums': WHATEVER THE INPUT: true; the input reads as it did. -/
def shaSumsSpec : ChangeSpec := { name := "shaSums", fn := fun _ => fun
  | [d1, d2] => { results := [.lit (.bool true)], args := [d1, d2] }
  | _ => none }
def shaSumsRow : OpenClaim := { program := "ytmkaagiabafooaadoor", sum := "8950a8f9fa861aad5eae862f81a4fe2bf9897f93eb3cd623098c6887359f8873", func := "casemate/casematelaw02.ShaSums", spec := "shaSums", named := ["casemate/sha.squareRoots", "casemate/sha.cubeRoots"], apart := false, laid := [("casemate/sha.squareRoots", laid_casemate_sha_squareRoots), ("casemate/sha.cubeRoots", laid_casemate_sha_cubeRoots)] }
def ShaSumsSaid : Prop := shaSumsRow.holds Tryd.pinned (OpenSpec.ofChange shaSumsSpec)

/-- ITS FALSE NEIGHBOUR: 'it returns false'. Refute it at one input. -/
def shaSumsWrong : ChangeSpec := { name := "shaSums", fn := fun _ => fun
  | [d1, d2] => { results := [.lit (.bool false)], args := [d1, d2] }
  | _ => none }
def ShaSumsWrongFalsely : Prop := shaSumsRow.holds Tryd.pinned (OpenSpec.ofChange shaSumsWrong)

/-- 'casematelaw02.ShaWrites': WHATEVER THE INPUT: true; the input reads as it did. -/
def shaWritesSpec : ChangeSpec := { name := "shaWrites", fn := fun _ => fun
  | [d] => { results := [.lit (.bool true)], args := [d] }
  | _ => none }
def shaWritesRow : OpenClaim := { program := "ytmkaagiabafooaadoor", sum := "8950a8f9fa861aad5eae862f81a4fe2bf9897f93eb3cd623098c6887359f8873", func := "casemate/casematelaw02.ShaWrites", spec := "shaWrites", named := ["casemate/sha.squareRoots", "casemate/sha.cubeRoots"], apart := false, laid := [("casemate/sha.squareRoots", laid_casemate_sha_squareRoots), ("casemate/sha.cubeRoots", laid_casemate_sha_cubeRoots)] }
def ShaWritesSaid : Prop := shaWritesRow.holds Tryd.pinned (OpenSpec.ofChange shaWritesSpec)

/-- ITS FALSE NEIGHBOUR: 'it returns false'. Refute it at one input. -/
def shaWritesWrong : ChangeSpec := { name := "shaWrites", fn := fun _ => fun
  | [d] => { results := [.lit (.bool false)], args := [d] }
  | _ => none }
def ShaWritesWrongFalsely : Prop := shaWritesRow.holds Tryd.pinned (OpenSpec.ofChange shaWritesWrong)

/-- 'casematelaw02.ShaPieces': WHATEVER THE INPUT: true; the input reads as it did. -/
def shaPiecesSpec : ChangeSpec := { name := "shaPieces", fn := fun _ => fun
  | [d1, d2] => { results := [.lit (.bool true)], args := [d1, d2] }
  | _ => none }
def shaPiecesRow : OpenClaim := { program := "ytmkaagiabafooaadoor", sum := "8950a8f9fa861aad5eae862f81a4fe2bf9897f93eb3cd623098c6887359f8873", func := "casemate/casematelaw02.ShaPieces", spec := "shaPieces", named := ["casemate/sha.squareRoots", "casemate/sha.cubeRoots"], apart := false, laid := [("casemate/sha.squareRoots", laid_casemate_sha_squareRoots), ("casemate/sha.cubeRoots", laid_casemate_sha_cubeRoots)] }
def ShaPiecesSaid : Prop := shaPiecesRow.holds Tryd.pinned (OpenSpec.ofChange shaPiecesSpec)

/-- ITS FALSE NEIGHBOUR: 'it returns false'. Refute it at one input. -/
def shaPiecesWrong : ChangeSpec := { name := "shaPieces", fn := fun _ => fun
  | [d1, d2] => { results := [.lit (.bool false)], args := [d1, d2] }
  | _ => none }
def ShaPiecesWrongFalsely : Prop := shaPiecesRow.holds Tryd.pinned (OpenSpec.ofChange shaPiecesWrong)

/-- 'casematelaw02.ShaBoth': WHATEVER THE INPUT: true; the input reads as it did. -/
def shaBothSpec : ChangeSpec := { name := "shaBoth", fn := fun _ => fun
  | [d1, d2, d3] => { results := [.lit (.bool true)], args := [d1, d2, d3] }
  | _ => none }
def shaBothRow : OpenClaim := { program := "ytmkaagiabafooaadoor", sum := "8950a8f9fa861aad5eae862f81a4fe2bf9897f93eb3cd623098c6887359f8873", func := "casemate/casematelaw02.ShaBoth", spec := "shaBoth", named := ["casemate/sha.squareRoots", "casemate/sha.cubeRoots"], apart := false, laid := [("casemate/sha.squareRoots", laid_casemate_sha_squareRoots), ("casemate/sha.cubeRoots", laid_casemate_sha_cubeRoots)] }
def ShaBothSaid : Prop := shaBothRow.holds Tryd.pinned (OpenSpec.ofChange shaBothSpec)

/-- ITS FALSE NEIGHBOUR: 'it returns false'. Refute it at one input. -/
def shaBothWrong : ChangeSpec := { name := "shaBoth", fn := fun _ => fun
  | [d1, d2, d3] => { results := [.lit (.bool false)], args := [d1, d2, d3] }
  | _ => none }
def ShaBothWrongFalsely : Prop := shaBothRow.holds Tryd.pinned (OpenSpec.ofChange shaBothWrong)

/-- 'casematelaw03.HmacMarks': WHATEVER THE INPUT: true; the input reads as it did. -/
def hmacMarksSpec : ChangeSpec := { name := "hmacMarks", fn := fun _ => fun
  | [d1, d2, d3] => { results := [.lit (.bool true)], args := [d1, d2, d3] }
  | _ => none }
def hmacMarksRow : OpenClaim := { program := "ytmkaagiabafooaadoor", sum := "8950a8f9fa861aad5eae862f81a4fe2bf9897f93eb3cd623098c6887359f8873", func := "casemate/casematelaw03.HmacMarks", spec := "hmacMarks", unfollowed := true, recurses := true, named := ["casemate/sha.squareRoots", "casemate/sha.cubeRoots"], apart := false, laid := [("casemate/sha.squareRoots", laid_casemate_sha_squareRoots), ("casemate/sha.cubeRoots", laid_casemate_sha_cubeRoots)] }
def HmacMarksSaid : Prop := hmacMarksRow.holds Tryd.pinned (OpenSpec.ofChange hmacMarksSpec)

/-- ITS FALSE NEIGHBOUR: 'it returns false'. Refute it at one input. -/
def hmacMarksWrong : ChangeSpec := { name := "hmacMarks", fn := fun _ => fun
  | [d1, d2, d3] => { results := [.lit (.bool false)], args := [d1, d2, d3] }
  | _ => none }
def HmacMarksWrongFalsely : Prop := hmacMarksRow.holds Tryd.pinned (OpenSpec.ofChange hmacMarksWrong)

/-- 'casematelaw03.HmacStreams': WHATEVER THE INPUT: true; the input reads as it did. -/
def hmacStreamsSpec : ChangeSpec := { name := "hmacStreams", fn := fun _ => fun
  | [d1, d2, d3, d4] => { results := [.lit (.bool true)], args := [d1, d2, d3, d4] }
  | _ => none }
def hmacStreamsRow : OpenClaim := { program := "ytmkaagiabafooaadoor", sum := "8950a8f9fa861aad5eae862f81a4fe2bf9897f93eb3cd623098c6887359f8873", func := "casemate/casematelaw03.HmacStreams", spec := "hmacStreams", unfollowed := true, recurses := true, named := ["casemate/sha.squareRoots", "casemate/sha.cubeRoots"], apart := false, laid := [("casemate/sha.squareRoots", laid_casemate_sha_squareRoots), ("casemate/sha.cubeRoots", laid_casemate_sha_cubeRoots)] }
def HmacStreamsSaid : Prop := hmacStreamsRow.holds Tryd.pinned (OpenSpec.ofChange hmacStreamsSpec)

/-- ITS FALSE NEIGHBOUR: 'it returns false'. Refute it at one input. -/
def hmacStreamsWrong : ChangeSpec := { name := "hmacStreams", fn := fun _ => fun
  | [d1, d2, d3, d4] => { results := [.lit (.bool false)], args := [d1, d2, d3, d4] }
  | _ => none }
def HmacStreamsWrongFalsely : Prop := hmacStreamsRow.holds Tryd.pinned (OpenSpec.ofChange hmacStreamsWrong)

/-- 'casematelaw03.HmacKeys': WHATEVER THE INPUT: true; the input reads as it did. -/
def hmacKeysSpec : ChangeSpec := { name := "hmacKeys", fn := fun _ => fun
  | [d1, d2, d3] => { results := [.lit (.bool true)], args := [d1, d2, d3] }
  | _ => none }
def hmacKeysRow : OpenClaim := { program := "ytmkaagiabafooaadoor", sum := "8950a8f9fa861aad5eae862f81a4fe2bf9897f93eb3cd623098c6887359f8873", func := "casemate/casematelaw03.HmacKeys", spec := "hmacKeys", unfollowed := true, recurses := true, named := ["casemate/sha.squareRoots", "casemate/sha.cubeRoots"], apart := false, laid := [("casemate/sha.squareRoots", laid_casemate_sha_squareRoots), ("casemate/sha.cubeRoots", laid_casemate_sha_cubeRoots)] }
def HmacKeysSaid : Prop := hmacKeysRow.holds Tryd.pinned (OpenSpec.ofChange hmacKeysSpec)

/-- ITS FALSE NEIGHBOUR: 'it returns false'. Refute it at one input. -/
def hmacKeysWrong : ChangeSpec := { name := "hmacKeys", fn := fun _ => fun
  | [d1, d2, d3] => { results := [.lit (.bool false)], args := [d1, d2, d3] }
  | _ => none }
def HmacKeysWrongFalsely : Prop := hmacKeysRow.holds Tryd.pinned (OpenSpec.ofChange hmacKeysWrong)

/-- 'casematelaw03.HmacBegins': WHATEVER THE INPUT: true; the input reads as it did. -/
def hmacBeginsSpec : ChangeSpec := { name := "hmacBegins", fn := fun _ => fun
  | [d1, d2, d3, d4] => { results := [.lit (.bool true)], args := [d1, d2, d3, d4] }
  | _ => none }
def hmacBeginsRow : OpenClaim := { program := "ytmkaagiabafooaadoor", sum := "8950a8f9fa861aad5eae862f81a4fe2bf9897f93eb3cd623098c6887359f8873", func := "casemate/casematelaw03.HmacBegins", spec := "hmacBegins", unfollowed := true, recurses := true, named := ["casemate/sha.squareRoots", "casemate/sha.cubeRoots"], apart := false, laid := [("casemate/sha.squareRoots", laid_casemate_sha_squareRoots), ("casemate/sha.cubeRoots", laid_casemate_sha_cubeRoots)] }
def HmacBeginsSaid : Prop := hmacBeginsRow.holds Tryd.pinned (OpenSpec.ofChange hmacBeginsSpec)

/-- ITS FALSE NEIGHBOUR: 'it returns false'. Refute it at one input. -/
def hmacBeginsWrong : ChangeSpec := { name := "hmacBegins", fn := fun _ => fun
  | [d1, d2, d3, d4] => { results := [.lit (.bool false)], args := [d1, d2, d3, d4] }
  | _ => none }
def HmacBeginsWrongFalsely : Prop := hmacBeginsRow.holds Tryd.pinned (OpenSpec.ofChange hmacBeginsWrong)

/-- 'casematelaw03.HmacTurned': WHATEVER THE INPUT: true; the input reads as it did. -/
def hmacTurnedSpec : ChangeSpec := { name := "hmacTurned", fn := fun _ => fun
  | [d1, d2, d3, d4] => { results := [.lit (.bool true)], args := [d1, d2, d3, d4] }
  | _ => none }
def hmacTurnedRow : OpenClaim := { program := "ytmkaagiabafooaadoor", sum := "8950a8f9fa861aad5eae862f81a4fe2bf9897f93eb3cd623098c6887359f8873", func := "casemate/casematelaw03.HmacTurned", spec := "hmacTurned", unfollowed := true, recurses := true, named := ["casemate/sha.squareRoots", "casemate/sha.cubeRoots"], apart := false, laid := [("casemate/sha.squareRoots", laid_casemate_sha_squareRoots), ("casemate/sha.cubeRoots", laid_casemate_sha_cubeRoots)] }
def HmacTurnedSaid : Prop := hmacTurnedRow.holds Tryd.pinned (OpenSpec.ofChange hmacTurnedSpec)

/-- ITS FALSE NEIGHBOUR: 'it returns false'. Refute it at one input. -/
def hmacTurnedWrong : ChangeSpec := { name := "hmacTurned", fn := fun _ => fun
  | [d1, d2, d3, d4] => { results := [.lit (.bool false)], args := [d1, d2, d3, d4] }
  | _ => none }
def HmacTurnedWrongFalsely : Prop := hmacTurnedRow.holds Tryd.pinned (OpenSpec.ofChange hmacTurnedWrong)

/- THE SECOND FORM. 'bulk': how many values and letters a reading holds, each counted each time it is reached (what is shared counts as often as it is met; a slice's spare places count too). A statement '..UptoSaid' is the law's where the arguments, and the package variables that the reading takes, are together of bulk at most 1048576: NARROWER than '..Said'. Prove '..Said' where nothing that the law and all that it calls make is longer than what came in: it says more and counts as full. Else prove '..UptoSaid'. A law counts once. -/
mutual
def uptoBulk {H : Type} : DataW H → Nat
  | .lit (.string bytes) => bytes.length + 1
  | .lit _ => 1
  | .nil => 1
  | .ptr d => uptoBulk d + 1
  | .slice elems spare => uptoBulkAll elems + uptoBulkAll spare + 1
  | .agg parts => uptoBulkAll parts + 1
  | .iface _ d => uptoBulk d + 1
  | .map entries => uptoBulkEntries entries + 1
  | .held _ => 1
def uptoBulkAll {H : Type} : List (DataW H) → Nat
  | [] => 0
  | d :: r => uptoBulk d + uptoBulkAll r
def uptoBulkEntries {H : Type} : List (Lit × DataW H) → Nat
  | [] => 0
  | x :: r => uptoBulkEntry x + uptoBulkEntries r
def uptoBulkEntry {H : Type} : Lit × DataW H → Nat
  | (.string bytes, d) => bytes.length + uptoBulk d + 1
  | (_, d) => uptoBulk d + 1
 end
def uptoSmall : (H : Type) → List (DataW H) → Bool := fun _ ds => decide (uptoBulkAll ds ≤ 1048576)
def OpenSpec.upto (s : _root_.Go.ChangeSpec) : _root_.Go.OpenSpec := { _root_.Go.OpenSpec.ofChange s with cond := some uptoSmall }

/-- 'casematelaw02.ShaSums', WHERE WHAT IT READS IS OF BULK AT MOST 1048576: true; the input reads as it did. -/
def shaSumsUptoRow : OpenClaim := { program := "ytmkaagiabafooaadoor", sum := "8950a8f9fa861aad5eae862f81a4fe2bf9897f93eb3cd623098c6887359f8873", func := "casemate/casematelaw02.ShaSums", spec := "shaSums", named := ["casemate/sha.squareRoots", "casemate/sha.cubeRoots"], apart := false, laid := [("casemate/sha.squareRoots", laid_casemate_sha_squareRoots), ("casemate/sha.cubeRoots", laid_casemate_sha_cubeRoots)], narrowed := true }
def ShaSumsUptoSaid : Prop := shaSumsUptoRow.holds Tryd.pinned (OpenSpec.upto shaSumsSpec)

/-- 'casematelaw02.ShaWrites', WHERE WHAT IT READS IS OF BULK AT MOST 1048576: true; the input reads as it did. -/
def shaWritesUptoRow : OpenClaim := { program := "ytmkaagiabafooaadoor", sum := "8950a8f9fa861aad5eae862f81a4fe2bf9897f93eb3cd623098c6887359f8873", func := "casemate/casematelaw02.ShaWrites", spec := "shaWrites", named := ["casemate/sha.squareRoots", "casemate/sha.cubeRoots"], apart := false, laid := [("casemate/sha.squareRoots", laid_casemate_sha_squareRoots), ("casemate/sha.cubeRoots", laid_casemate_sha_cubeRoots)], narrowed := true }
def ShaWritesUptoSaid : Prop := shaWritesUptoRow.holds Tryd.pinned (OpenSpec.upto shaWritesSpec)

/-- 'casematelaw02.ShaPieces', WHERE WHAT IT READS IS OF BULK AT MOST 1048576: true; the input reads as it did. -/
def shaPiecesUptoRow : OpenClaim := { program := "ytmkaagiabafooaadoor", sum := "8950a8f9fa861aad5eae862f81a4fe2bf9897f93eb3cd623098c6887359f8873", func := "casemate/casematelaw02.ShaPieces", spec := "shaPieces", named := ["casemate/sha.squareRoots", "casemate/sha.cubeRoots"], apart := false, laid := [("casemate/sha.squareRoots", laid_casemate_sha_squareRoots), ("casemate/sha.cubeRoots", laid_casemate_sha_cubeRoots)], narrowed := true }
def ShaPiecesUptoSaid : Prop := shaPiecesUptoRow.holds Tryd.pinned (OpenSpec.upto shaPiecesSpec)

/-- 'casematelaw02.ShaBoth', WHERE WHAT IT READS IS OF BULK AT MOST 1048576: true; the input reads as it did. -/
def shaBothUptoRow : OpenClaim := { program := "ytmkaagiabafooaadoor", sum := "8950a8f9fa861aad5eae862f81a4fe2bf9897f93eb3cd623098c6887359f8873", func := "casemate/casematelaw02.ShaBoth", spec := "shaBoth", named := ["casemate/sha.squareRoots", "casemate/sha.cubeRoots"], apart := false, laid := [("casemate/sha.squareRoots", laid_casemate_sha_squareRoots), ("casemate/sha.cubeRoots", laid_casemate_sha_cubeRoots)], narrowed := true }
def ShaBothUptoSaid : Prop := shaBothUptoRow.holds Tryd.pinned (OpenSpec.upto shaBothSpec)

/-- 'casematelaw03.HmacMarks', WHERE WHAT IT READS IS OF BULK AT MOST 1048576: true; the input reads as it did. -/
def hmacMarksUptoRow : OpenClaim := { program := "ytmkaagiabafooaadoor", sum := "8950a8f9fa861aad5eae862f81a4fe2bf9897f93eb3cd623098c6887359f8873", func := "casemate/casematelaw03.HmacMarks", spec := "hmacMarks", unfollowed := true, recurses := true, named := ["casemate/sha.squareRoots", "casemate/sha.cubeRoots"], apart := false, laid := [("casemate/sha.squareRoots", laid_casemate_sha_squareRoots), ("casemate/sha.cubeRoots", laid_casemate_sha_cubeRoots)], narrowed := true }
def HmacMarksUptoSaid : Prop := hmacMarksUptoRow.holds Tryd.pinned (OpenSpec.upto hmacMarksSpec)

/-- 'casematelaw03.HmacStreams', WHERE WHAT IT READS IS OF BULK AT MOST 1048576: true; the input reads as it did. -/
def hmacStreamsUptoRow : OpenClaim := { program := "ytmkaagiabafooaadoor", sum := "8950a8f9fa861aad5eae862f81a4fe2bf9897f93eb3cd623098c6887359f8873", func := "casemate/casematelaw03.HmacStreams", spec := "hmacStreams", unfollowed := true, recurses := true, named := ["casemate/sha.squareRoots", "casemate/sha.cubeRoots"], apart := false, laid := [("casemate/sha.squareRoots", laid_casemate_sha_squareRoots), ("casemate/sha.cubeRoots", laid_casemate_sha_cubeRoots)], narrowed := true }
def HmacStreamsUptoSaid : Prop := hmacStreamsUptoRow.holds Tryd.pinned (OpenSpec.upto hmacStreamsSpec)

/-- 'casematelaw03.HmacKeys', WHERE WHAT IT READS IS OF BULK AT MOST 1048576: true; the input reads as it did. -/
def hmacKeysUptoRow : OpenClaim := { program := "ytmkaagiabafooaadoor", sum := "8950a8f9fa861aad5eae862f81a4fe2bf9897f93eb3cd623098c6887359f8873", func := "casemate/casematelaw03.HmacKeys", spec := "hmacKeys", unfollowed := true, recurses := true, named := ["casemate/sha.squareRoots", "casemate/sha.cubeRoots"], apart := false, laid := [("casemate/sha.squareRoots", laid_casemate_sha_squareRoots), ("casemate/sha.cubeRoots", laid_casemate_sha_cubeRoots)], narrowed := true }
def HmacKeysUptoSaid : Prop := hmacKeysUptoRow.holds Tryd.pinned (OpenSpec.upto hmacKeysSpec)

/-- 'casematelaw03.HmacBegins', WHERE WHAT IT READS IS OF BULK AT MOST 1048576: true; the input reads as it did. -/
def hmacBeginsUptoRow : OpenClaim := { program := "ytmkaagiabafooaadoor", sum := "8950a8f9fa861aad5eae862f81a4fe2bf9897f93eb3cd623098c6887359f8873", func := "casemate/casematelaw03.HmacBegins", spec := "hmacBegins", unfollowed := true, recurses := true, named := ["casemate/sha.squareRoots", "casemate/sha.cubeRoots"], apart := false, laid := [("casemate/sha.squareRoots", laid_casemate_sha_squareRoots), ("casemate/sha.cubeRoots", laid_casemate_sha_cubeRoots)], narrowed := true }
def HmacBeginsUptoSaid : Prop := hmacBeginsUptoRow.holds Tryd.pinned (OpenSpec.upto hmacBeginsSpec)

/-- 'casematelaw03.HmacTurned', WHERE WHAT IT READS IS OF BULK AT MOST 1048576: true; the input reads as it did. -/
def hmacTurnedUptoRow : OpenClaim := { program := "ytmkaagiabafooaadoor", sum := "8950a8f9fa861aad5eae862f81a4fe2bf9897f93eb3cd623098c6887359f8873", func := "casemate/casematelaw03.HmacTurned", spec := "hmacTurned", unfollowed := true, recurses := true, named := ["casemate/sha.squareRoots", "casemate/sha.cubeRoots"], apart := false, laid := [("casemate/sha.squareRoots", laid_casemate_sha_squareRoots), ("casemate/sha.cubeRoots", laid_casemate_sha_cubeRoots)], narrowed := true }
def HmacTurnedUptoSaid : Prop := hmacTurnedUptoRow.holds Tryd.pinned (OpenSpec.upto hmacTurnedSpec)

end Rows
end Go.Proofs.YtmkaagiabafooaaDoor
