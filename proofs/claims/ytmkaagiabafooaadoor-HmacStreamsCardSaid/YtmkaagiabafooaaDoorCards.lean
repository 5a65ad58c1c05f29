/-
  DERIVED. GIVEN WITH THE SEED: THE CARDS: each row of YtmkaagiabafooaaDoorRows.lean that lists a variable, with what it lists TIED to the program's text (the seventh form; the later family's looks); each row that meets fmt, with fmt's text TOLD by the authors' own Lean function (tested against real Go, not proved from fmt's source: count such statements apart). THE CARD IS WHAT COUNTS. Prove the row's statement (the work); the ties are given (YtmkaagiabafooaaDoorTie.lean); close each card by the builder's one call (the guide's Derived/Test/ToyasCard.lean, 'card_holds'). Laid BY PROGRAM, IN A SANDBOX (cutbox-door.mjs). By AI agents, Wed Nov 11 2026. No macro, syntax, notation, axiom, sorry.
-/
import Derived.Test.YtmkaagiabafooaaDoorRows
import GoSem.ClaimSeven
namespace Go.Proofs.YtmkaagiabafooaaDoor
namespace Rows

/-- THE TIED CARD OF 'casematelaw02.ShaSums'. -/
def shaSumsCard : Claim7 := { stood := { row := shaSumsRow, standIns := [], harness := (true, "c1a692658ed27d6b705437531a4023b4f004fc9067d80523147904b9ccf5c916"), looks := false }, kinds := [], alts := [], laidByText := true, laidKinds := [.data, .data], laidTests := true, laidLooks := .later }
def ShaSumsCardSaid : Prop := Claim7.holds Tryd.pinned (.plain (OpenSpec.ofChange shaSumsSpec)) shaSumsCard

/-- THE TIED CARD OF 'casematelaw02.ShaWrites'. -/
def shaWritesCard : Claim7 := { stood := { row := shaWritesRow, standIns := [], harness := (true, "c1a692658ed27d6b705437531a4023b4f004fc9067d80523147904b9ccf5c916"), looks := false }, kinds := [], alts := [], laidByText := true, laidKinds := [.data, .data], laidTests := true, laidLooks := .later }
def ShaWritesCardSaid : Prop := Claim7.holds Tryd.pinned (.plain (OpenSpec.ofChange shaWritesSpec)) shaWritesCard

/-- THE TIED CARD OF 'casematelaw02.ShaPieces'. -/
def shaPiecesCard : Claim7 := { stood := { row := shaPiecesRow, standIns := [], harness := (true, "c1a692658ed27d6b705437531a4023b4f004fc9067d80523147904b9ccf5c916"), looks := false }, kinds := [], alts := [], laidByText := true, laidKinds := [.data, .data], laidTests := true, laidLooks := .later }
def ShaPiecesCardSaid : Prop := Claim7.holds Tryd.pinned (.plain (OpenSpec.ofChange shaPiecesSpec)) shaPiecesCard

/-- THE TIED CARD OF 'casematelaw02.ShaBoth'. -/
def shaBothCard : Claim7 := { stood := { row := shaBothRow, standIns := [], harness := (true, "c1a692658ed27d6b705437531a4023b4f004fc9067d80523147904b9ccf5c916"), looks := false }, kinds := [], alts := [], laidByText := true, laidKinds := [.data, .data], laidTests := true, laidLooks := .later }
def ShaBothCardSaid : Prop := Claim7.holds Tryd.pinned (.plain (OpenSpec.ofChange shaBothSpec)) shaBothCard

/-- THE TIED CARD OF 'casematelaw03.HmacMarks'. -/
def hmacMarksCard : Claim7 := { stood := { row := hmacMarksRow, standIns := [], harness := (true, "c1a692658ed27d6b705437531a4023b4f004fc9067d80523147904b9ccf5c916"), looks := false }, kinds := [], alts := [], laidByText := true, laidKinds := [.data, .data], laidTests := true, laidLooks := .later }
def HmacMarksCardSaid : Prop := Claim7.holds Tryd.pinned (.plain (OpenSpec.ofChange hmacMarksSpec)) hmacMarksCard

/-- THE TIED CARD OF 'casematelaw03.HmacStreams'. -/
def hmacStreamsCard : Claim7 := { stood := { row := hmacStreamsRow, standIns := [], harness := (true, "c1a692658ed27d6b705437531a4023b4f004fc9067d80523147904b9ccf5c916"), looks := false }, kinds := [], alts := [], laidByText := true, laidKinds := [.data, .data], laidTests := true, laidLooks := .later }
def HmacStreamsCardSaid : Prop := Claim7.holds Tryd.pinned (.plain (OpenSpec.ofChange hmacStreamsSpec)) hmacStreamsCard

/-- THE TIED CARD OF 'casematelaw03.HmacKeys'. -/
def hmacKeysCard : Claim7 := { stood := { row := hmacKeysRow, standIns := [], harness := (true, "c1a692658ed27d6b705437531a4023b4f004fc9067d80523147904b9ccf5c916"), looks := false }, kinds := [], alts := [], laidByText := true, laidKinds := [.data, .data], laidTests := true, laidLooks := .later }
def HmacKeysCardSaid : Prop := Claim7.holds Tryd.pinned (.plain (OpenSpec.ofChange hmacKeysSpec)) hmacKeysCard

/-- THE TIED CARD OF 'casematelaw03.HmacBegins'. -/
def hmacBeginsCard : Claim7 := { stood := { row := hmacBeginsRow, standIns := [], harness := (true, "c1a692658ed27d6b705437531a4023b4f004fc9067d80523147904b9ccf5c916"), looks := false }, kinds := [], alts := [], laidByText := true, laidKinds := [.data, .data], laidTests := true, laidLooks := .later }
def HmacBeginsCardSaid : Prop := Claim7.holds Tryd.pinned (.plain (OpenSpec.ofChange hmacBeginsSpec)) hmacBeginsCard

/-- THE TIED CARD OF 'casematelaw03.HmacTurned'. -/
def hmacTurnedCard : Claim7 := { stood := { row := hmacTurnedRow, standIns := [], harness := (true, "c1a692658ed27d6b705437531a4023b4f004fc9067d80523147904b9ccf5c916"), looks := false }, kinds := [], alts := [], laidByText := true, laidKinds := [.data, .data], laidTests := true, laidLooks := .later }
def HmacTurnedCardSaid : Prop := Claim7.holds Tryd.pinned (.plain (OpenSpec.ofChange hmacTurnedSpec)) hmacTurnedCard

/-- THE SECOND FORM's CARD OF 'casematelaw02.ShaSums'. -/
def shaSumsUptoCard : Claim7 := { stood := { row := shaSumsUptoRow, standIns := [], harness := (true, "c1a692658ed27d6b705437531a4023b4f004fc9067d80523147904b9ccf5c916"), looks := false }, kinds := [], alts := [], laidByText := true, laidKinds := [.data, .data], laidTests := true, laidLooks := .later }
def ShaSumsUptoCardSaid : Prop := Claim7.holds Tryd.pinned (.plain (OpenSpec.upto shaSumsSpec)) shaSumsUptoCard

/-- THE SECOND FORM's CARD OF 'casematelaw02.ShaWrites'. -/
def shaWritesUptoCard : Claim7 := { stood := { row := shaWritesUptoRow, standIns := [], harness := (true, "c1a692658ed27d6b705437531a4023b4f004fc9067d80523147904b9ccf5c916"), looks := false }, kinds := [], alts := [], laidByText := true, laidKinds := [.data, .data], laidTests := true, laidLooks := .later }
def ShaWritesUptoCardSaid : Prop := Claim7.holds Tryd.pinned (.plain (OpenSpec.upto shaWritesSpec)) shaWritesUptoCard

/-- THE SECOND FORM's CARD OF 'casematelaw02.ShaPieces'. -/
def shaPiecesUptoCard : Claim7 := { stood := { row := shaPiecesUptoRow, standIns := [], harness := (true, "c1a692658ed27d6b705437531a4023b4f004fc9067d80523147904b9ccf5c916"), looks := false }, kinds := [], alts := [], laidByText := true, laidKinds := [.data, .data], laidTests := true, laidLooks := .later }
def ShaPiecesUptoCardSaid : Prop := Claim7.holds Tryd.pinned (.plain (OpenSpec.upto shaPiecesSpec)) shaPiecesUptoCard

/-- THE SECOND FORM's CARD OF 'casematelaw02.ShaBoth'. -/
def shaBothUptoCard : Claim7 := { stood := { row := shaBothUptoRow, standIns := [], harness := (true, "c1a692658ed27d6b705437531a4023b4f004fc9067d80523147904b9ccf5c916"), looks := false }, kinds := [], alts := [], laidByText := true, laidKinds := [.data, .data], laidTests := true, laidLooks := .later }
def ShaBothUptoCardSaid : Prop := Claim7.holds Tryd.pinned (.plain (OpenSpec.upto shaBothSpec)) shaBothUptoCard

/-- THE SECOND FORM's CARD OF 'casematelaw03.HmacMarks'. -/
def hmacMarksUptoCard : Claim7 := { stood := { row := hmacMarksUptoRow, standIns := [], harness := (true, "c1a692658ed27d6b705437531a4023b4f004fc9067d80523147904b9ccf5c916"), looks := false }, kinds := [], alts := [], laidByText := true, laidKinds := [.data, .data], laidTests := true, laidLooks := .later }
def HmacMarksUptoCardSaid : Prop := Claim7.holds Tryd.pinned (.plain (OpenSpec.upto hmacMarksSpec)) hmacMarksUptoCard

/-- THE SECOND FORM's CARD OF 'casematelaw03.HmacStreams'. -/
def hmacStreamsUptoCard : Claim7 := { stood := { row := hmacStreamsUptoRow, standIns := [], harness := (true, "c1a692658ed27d6b705437531a4023b4f004fc9067d80523147904b9ccf5c916"), looks := false }, kinds := [], alts := [], laidByText := true, laidKinds := [.data, .data], laidTests := true, laidLooks := .later }
def HmacStreamsUptoCardSaid : Prop := Claim7.holds Tryd.pinned (.plain (OpenSpec.upto hmacStreamsSpec)) hmacStreamsUptoCard

/-- THE SECOND FORM's CARD OF 'casematelaw03.HmacKeys'. -/
def hmacKeysUptoCard : Claim7 := { stood := { row := hmacKeysUptoRow, standIns := [], harness := (true, "c1a692658ed27d6b705437531a4023b4f004fc9067d80523147904b9ccf5c916"), looks := false }, kinds := [], alts := [], laidByText := true, laidKinds := [.data, .data], laidTests := true, laidLooks := .later }
def HmacKeysUptoCardSaid : Prop := Claim7.holds Tryd.pinned (.plain (OpenSpec.upto hmacKeysSpec)) hmacKeysUptoCard

/-- THE SECOND FORM's CARD OF 'casematelaw03.HmacBegins'. -/
def hmacBeginsUptoCard : Claim7 := { stood := { row := hmacBeginsUptoRow, standIns := [], harness := (true, "c1a692658ed27d6b705437531a4023b4f004fc9067d80523147904b9ccf5c916"), looks := false }, kinds := [], alts := [], laidByText := true, laidKinds := [.data, .data], laidTests := true, laidLooks := .later }
def HmacBeginsUptoCardSaid : Prop := Claim7.holds Tryd.pinned (.plain (OpenSpec.upto hmacBeginsSpec)) hmacBeginsUptoCard

/-- THE SECOND FORM's CARD OF 'casematelaw03.HmacTurned'. -/
def hmacTurnedUptoCard : Claim7 := { stood := { row := hmacTurnedUptoRow, standIns := [], harness := (true, "c1a692658ed27d6b705437531a4023b4f004fc9067d80523147904b9ccf5c916"), looks := false }, kinds := [], alts := [], laidByText := true, laidKinds := [.data, .data], laidTests := true, laidLooks := .later }
def HmacTurnedUptoCardSaid : Prop := Claim7.holds Tryd.pinned (.plain (OpenSpec.upto hmacTurnedSpec)) hmacTurnedUptoCard
end Rows
end Go.Proofs.YtmkaagiabafooaaDoor
