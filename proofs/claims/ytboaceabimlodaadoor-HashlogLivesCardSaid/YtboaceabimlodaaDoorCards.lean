/-
  DERIVED. GIVEN WITH THE SEED: THE CARDS: each row of YtboaceabimlodaaDoorRows.lean that lists a variable, with what it lists TIED to the program's text (the seventh form; the later family's looks); each row that meets fmt, with fmt's text TOLD by the authors' own Lean function (tested against real Go, not proved from fmt's source: count such statements apart). THE CARD IS WHAT COUNTS. Prove the row's statement (the work); the ties are given (YtboaceabimlodaaDoorTie.lean); close each card by the builder's one call (the guide's Derived/Test/ToyasCard.lean, 'card_holds'). Laid BY PROGRAM, IN A SANDBOX (cutbox-door.mjs). By AI agents, Wed Nov 11 2026. No macro, syntax, notation, axiom, sorry.
-/
import Derived.Test.YtboaceabimlodaaDoorRows
import GoSem.ClaimSeven
namespace Go.Proofs.YtboaceabimlodaaDoor
namespace Rows

/-- THE TIED CARD OF 'casematelaw08.HashlogLives'. -/
def hashlogLivesCard : Claim7 := { stood := { row := hashlogLivesRow, standIns := [], harness := (true, "d480036ef970937bd262da45ca70bea84650359a340a4447fa45a1141bb94ffb"), looks := false }, kinds := [], alts := [], laidByText := true, laidKinds := [.data, .data], laidTests := true, laidLooks := .later }
def HashlogLivesCardSaid : Prop := Claim7.holds Tryd.pinned (.plain (OpenSpec.ofChange hashlogLivesSpec)) hashlogLivesCard

/-- THE TIED CARD OF 'casematelaw08.HashlogNobody'. -/
def hashlogNobodyCard : Claim7 := { stood := { row := hashlogNobodyRow, standIns := [], harness := (true, "d480036ef970937bd262da45ca70bea84650359a340a4447fa45a1141bb94ffb"), looks := false }, kinds := [], alts := [], laidByText := true, laidKinds := [.data, .data], laidTests := true, laidLooks := .later }
def HashlogNobodyCardSaid : Prop := Claim7.holds Tryd.pinned (.plain (OpenSpec.ofChange hashlogNobodySpec)) hashlogNobodyCard

/-- THE TIED CARD OF 'casematelaw08.HashlogApart'. -/
def hashlogApartCard : Claim7 := { stood := { row := hashlogApartRow, standIns := [], harness := (true, "d480036ef970937bd262da45ca70bea84650359a340a4447fa45a1141bb94ffb"), looks := false }, kinds := [], alts := [], laidByText := true, laidKinds := [.data, .data], laidTests := true, laidLooks := .later }
def HashlogApartCardSaid : Prop := Claim7.holds Tryd.pinned (.plain (OpenSpec.ofChange hashlogApartSpec)) hashlogApartCard

/-- THE TIED CARD OF 'casematelaw08.HashlogStays'. -/
def hashlogStaysCard : Claim7 := { stood := { row := hashlogStaysRow, standIns := [], harness := (true, "d480036ef970937bd262da45ca70bea84650359a340a4447fa45a1141bb94ffb"), looks := false }, kinds := [], alts := [], laidByText := true, laidKinds := [.data, .data], laidTests := true, laidLooks := .later }
def HashlogStaysCardSaid : Prop := Claim7.holds Tryd.pinned (.plain (OpenSpec.ofChange hashlogStaysSpec)) hashlogStaysCard

/-- THE SECOND FORM's CARD OF 'casematelaw08.HashlogLives'. -/
def hashlogLivesUptoCard : Claim7 := { stood := { row := hashlogLivesUptoRow, standIns := [], harness := (true, "d480036ef970937bd262da45ca70bea84650359a340a4447fa45a1141bb94ffb"), looks := false }, kinds := [], alts := [], laidByText := true, laidKinds := [.data, .data], laidTests := true, laidLooks := .later }
def HashlogLivesUptoCardSaid : Prop := Claim7.holds Tryd.pinned (.plain (OpenSpec.upto hashlogLivesSpec)) hashlogLivesUptoCard

/-- THE SECOND FORM's CARD OF 'casematelaw08.HashlogNobody'. -/
def hashlogNobodyUptoCard : Claim7 := { stood := { row := hashlogNobodyUptoRow, standIns := [], harness := (true, "d480036ef970937bd262da45ca70bea84650359a340a4447fa45a1141bb94ffb"), looks := false }, kinds := [], alts := [], laidByText := true, laidKinds := [.data, .data], laidTests := true, laidLooks := .later }
def HashlogNobodyUptoCardSaid : Prop := Claim7.holds Tryd.pinned (.plain (OpenSpec.upto hashlogNobodySpec)) hashlogNobodyUptoCard

/-- THE SECOND FORM's CARD OF 'casematelaw08.HashlogApart'. -/
def hashlogApartUptoCard : Claim7 := { stood := { row := hashlogApartUptoRow, standIns := [], harness := (true, "d480036ef970937bd262da45ca70bea84650359a340a4447fa45a1141bb94ffb"), looks := false }, kinds := [], alts := [], laidByText := true, laidKinds := [.data, .data], laidTests := true, laidLooks := .later }
def HashlogApartUptoCardSaid : Prop := Claim7.holds Tryd.pinned (.plain (OpenSpec.upto hashlogApartSpec)) hashlogApartUptoCard

/-- THE SECOND FORM's CARD OF 'casematelaw08.HashlogStays'. -/
def hashlogStaysUptoCard : Claim7 := { stood := { row := hashlogStaysUptoRow, standIns := [], harness := (true, "d480036ef970937bd262da45ca70bea84650359a340a4447fa45a1141bb94ffb"), looks := false }, kinds := [], alts := [], laidByText := true, laidKinds := [.data, .data], laidTests := true, laidLooks := .later }
def HashlogStaysUptoCardSaid : Prop := Claim7.holds Tryd.pinned (.plain (OpenSpec.upto hashlogStaysSpec)) hashlogStaysUptoCard
end Rows
end Go.Proofs.YtboaceabimlodaaDoor
