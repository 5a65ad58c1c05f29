/-
  DERIVED. GIVEN WITH THE SEED: THE CARDS: each row of YtjdamlmoegippaaDoorRows.lean that lists a variable, with what it lists TIED to the program's text (the seventh form; the later family's looks); each row that meets fmt, with fmt's text TOLD by the authors' own Lean function (tested against real Go, not proved from fmt's source: count such statements apart). THE CARD IS WHAT COUNTS. Prove the row's statement (the work); the ties are given (YtjdamlmoegippaaDoorTie.lean); close each card by the builder's one call (the guide's Derived/Test/ToyasCard.lean, 'card_holds'). Laid BY PROGRAM, IN A SANDBOX (cutbox-door.mjs). By AI agents, Wed Nov 11 2026. No macro, syntax, notation, axiom, sorry.
-/
import Derived.Test.YtjdamlmoegippaaDoorRows
import GoSem.ClaimSeven
namespace Go.Proofs.YtjdamlmoegippaaDoor
namespace Rows

/-- THE TIED CARD OF 'casematelaw18.PoolNobody'. -/
def poolNobodyCard : Claim7 := { stood := { row := poolNobodyRow, standIns := [], harness := (true, "979f7847d6cc26e6e06395349a787c02594aace90db418a6cc48ebc9a76f8a27"), looks := false }, kinds := [], alts := [], laidByText := true, laidKinds := [.data, .data], laidTests := true, laidLooks := .later }
def PoolNobodyCardSaid : Prop := Claim7.holds Tryd.pinned (.plain (OpenSpec.ofChange poolNobodySpec)) poolNobodyCard

/-- THE TIED CARD OF 'casematelaw18.PoolStays'. -/
def poolStaysCard : Claim7 := { stood := { row := poolStaysRow, standIns := [], harness := (true, "979f7847d6cc26e6e06395349a787c02594aace90db418a6cc48ebc9a76f8a27"), looks := false }, kinds := [], alts := [], laidByText := true, laidKinds := [.data, .data], laidTests := true, laidLooks := .later }
def PoolStaysCardSaid : Prop := Claim7.holds Tryd.pinned (.plain (OpenSpec.ofChange poolStaysSpec)) poolStaysCard

/-- THE TIED CARD OF 'casematelaw18.PoolTold'. -/
def poolToldCard : Claim7 := { stood := { row := poolToldRow, standIns := [], harness := (true, "979f7847d6cc26e6e06395349a787c02594aace90db418a6cc48ebc9a76f8a27"), looks := false }, kinds := [], alts := [], laidByText := true, laidKinds := [.data, .data], laidTests := true, laidLooks := .later }
def PoolToldCardSaid : Prop := Claim7.holds Tryd.pinned (.plain (OpenSpec.ofChange poolToldSpec)) poolToldCard

/-- THE TIED CARD OF 'casematelaw18.PoolRefused'. -/
def poolRefusedCard : Claim7 := { stood := { row := poolRefusedRow, standIns := [], harness := (true, "979f7847d6cc26e6e06395349a787c02594aace90db418a6cc48ebc9a76f8a27"), looks := false }, kinds := [], alts := [], laidByText := true, laidKinds := [.data, .data], laidTests := true, laidLooks := .later }
def PoolRefusedCardSaid : Prop := Claim7.holds Tryd.pinned (.plain (OpenSpec.ofChange poolRefusedSpec)) poolRefusedCard

/-- THE SECOND FORM's CARD OF 'casematelaw18.PoolNobody'. -/
def poolNobodyUptoCard : Claim7 := { stood := { row := poolNobodyUptoRow, standIns := [], harness := (true, "979f7847d6cc26e6e06395349a787c02594aace90db418a6cc48ebc9a76f8a27"), looks := false }, kinds := [], alts := [], laidByText := true, laidKinds := [.data, .data], laidTests := true, laidLooks := .later }
def PoolNobodyUptoCardSaid : Prop := Claim7.holds Tryd.pinned (.plain (OpenSpec.upto poolNobodySpec)) poolNobodyUptoCard

/-- THE SECOND FORM's CARD OF 'casematelaw18.PoolStays'. -/
def poolStaysUptoCard : Claim7 := { stood := { row := poolStaysUptoRow, standIns := [], harness := (true, "979f7847d6cc26e6e06395349a787c02594aace90db418a6cc48ebc9a76f8a27"), looks := false }, kinds := [], alts := [], laidByText := true, laidKinds := [.data, .data], laidTests := true, laidLooks := .later }
def PoolStaysUptoCardSaid : Prop := Claim7.holds Tryd.pinned (.plain (OpenSpec.upto poolStaysSpec)) poolStaysUptoCard

/-- THE SECOND FORM's CARD OF 'casematelaw18.PoolTold'. -/
def poolToldUptoCard : Claim7 := { stood := { row := poolToldUptoRow, standIns := [], harness := (true, "979f7847d6cc26e6e06395349a787c02594aace90db418a6cc48ebc9a76f8a27"), looks := false }, kinds := [], alts := [], laidByText := true, laidKinds := [.data, .data], laidTests := true, laidLooks := .later }
def PoolToldUptoCardSaid : Prop := Claim7.holds Tryd.pinned (.plain (OpenSpec.upto poolToldSpec)) poolToldUptoCard

/-- THE SECOND FORM's CARD OF 'casematelaw18.PoolRefused'. -/
def poolRefusedUptoCard : Claim7 := { stood := { row := poolRefusedUptoRow, standIns := [], harness := (true, "979f7847d6cc26e6e06395349a787c02594aace90db418a6cc48ebc9a76f8a27"), looks := false }, kinds := [], alts := [], laidByText := true, laidKinds := [.data, .data], laidTests := true, laidLooks := .later }
def PoolRefusedUptoCardSaid : Prop := Claim7.holds Tryd.pinned (.plain (OpenSpec.upto poolRefusedSpec)) poolRefusedUptoCard
end Rows
end Go.Proofs.YtjdamlmoegippaaDoor
