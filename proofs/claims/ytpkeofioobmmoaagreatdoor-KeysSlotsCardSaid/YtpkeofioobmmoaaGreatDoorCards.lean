/-
  DERIVED. GIVEN WITH THE SEED: THE CARDS: each row of YtpkeofioobmmoaaGreatDoorRows.lean that lists a variable, with what it lists TIED to the program's text (the seventh form; the later family's looks); each row that meets fmt, with fmt's text TOLD by the authors' own Lean function (tested against real Go, not proved from fmt's source: count such statements apart). THE CARD IS WHAT COUNTS. Prove the row's statement (the work); the ties are given (YtpkeofioobmmoaaGreatDoorTie.lean); close each card by the builder's one call (the guide's Derived/Test/ToyasCard.lean, 'card_holds'). Laid BY PROGRAM, IN A SANDBOX (cutbox-door.mjs). By AI agents, Wed Nov 11 2026. No macro, syntax, notation, axiom, sorry.
-/
import Derived.Test.YtpkeofioobmmoaaGreatDoorRows
import GoSem.ClaimSeven
namespace Go.Proofs.YtpkeofioobmmoaaGreatDoor
namespace Rows

/-- THE TIED CARD OF 'casematelaw21.KeysSlots'. -/
def keysSlotsCard : Claim7 := { stood := { row := keysSlotsRow, standIns := [], harness := (true, "f0d75910c4d11af78fbd75c8f299927e74c33bf1413acb3454240b14bf709812"), looks := false }, kinds := [], alts := [], laidByText := true, laidKinds := [.data, .data], laidTests := true, laidLooks := .later }
def KeysSlotsCardSaid : Prop := Claim7.holds Tryz.pinned (.plain (OpenSpec.ofChange keysSlotsSpec)) keysSlotsCard

/-- THE SECOND FORM's CARD OF 'casematelaw21.KeysSlots'. -/
def keysSlotsUptoCard : Claim7 := { stood := { row := keysSlotsUptoRow, standIns := [], harness := (true, "f0d75910c4d11af78fbd75c8f299927e74c33bf1413acb3454240b14bf709812"), looks := false }, kinds := [], alts := [], laidByText := true, laidKinds := [.data, .data], laidTests := true, laidLooks := .later }
def KeysSlotsUptoCardSaid : Prop := Claim7.holds Tryz.pinned (.plain (OpenSpec.upto keysSlotsSpec)) keysSlotsUptoCard
end Rows
end Go.Proofs.YtpkeofioobmmoaaGreatDoor
