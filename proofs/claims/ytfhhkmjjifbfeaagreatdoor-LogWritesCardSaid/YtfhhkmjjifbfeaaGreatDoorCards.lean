/-
  DERIVED. GIVEN WITH THE SEED: THE CARDS: each row of YtfhhkmjjifbfeaaGreatDoorRows.lean that lists a variable, with what it lists TIED to the program's text (the seventh form; the later family's looks); each row that meets fmt, with fmt's text TOLD by the authors' own Lean function (tested against real Go, not proved from fmt's source: count such statements apart). THE CARD IS WHAT COUNTS. Prove the row's statement (the work); the ties are given (YtfhhkmjjifbfeaaGreatDoorTie.lean); close each card by the builder's one call (the guide's Derived/Test/ToyasCard.lean, 'card_holds'). Laid BY PROGRAM, IN A SANDBOX (cutbox-door.mjs). By AI agents, Wed Nov 11 2026. No macro, syntax, notation, axiom, sorry.
-/
import Derived.Test.YtfhhkmjjifbfeaaGreatDoorRows
import GoSem.ClaimSeven
namespace Go.Proofs.YtfhhkmjjifbfeaaGreatDoor
namespace Rows

/-- THE TIED CARD OF 'reparteelaw30.LogPrints'. -/
def logPrintsCard : Claim7 := { stood := { row := logPrintsRow, standIns := [], harness := (true, "60eb273273a662c93571fe66e69a114ae4d68927fa854e6e93562a23bdd5a856"), looks := true }, kinds := [], alts := [], laidByText := true, laidKinds := [.data, .data, .data, .data, .sentinel, .sentinel, .data, .data, .pinned], laidTests := true, laidLooks := .later }
def LogPrintsCardSaid : Prop := Claim7.holds Tryz.pinned (.plain (OpenSpec.ofChange logPrintsSpec)) logPrintsCard

/-- THE TIED CARD OF 'reparteelaw30.LogParses'. -/
def logParsesCard : Claim7 := { stood := { row := logParsesRow, standIns := [], harness := (true, "60eb273273a662c93571fe66e69a114ae4d68927fa854e6e93562a23bdd5a856"), looks := true }, kinds := [], alts := [], laidByText := true, laidKinds := [.data, .data, .data, .data, .sentinel, .sentinel, .data, .data, .pinned], laidTests := true, laidLooks := .later }
def LogParsesCardSaid : Prop := Claim7.holds Tryz.pinned (.plain (OpenSpec.ofChange logParsesSpec)) logParsesCard

/-- THE TIED CARD OF 'reparteelaw30.LogWrites'. -/
def logWritesCard : Claim7 := { stood := { row := logWritesRow, standIns := [], harness := (true, "60eb273273a662c93571fe66e69a114ae4d68927fa854e6e93562a23bdd5a856"), looks := true }, kinds := [], alts := [], laidByText := true, laidKinds := [.data, .data, .data, .data, .sentinel, .sentinel, .data, .data, .pinned], laidTests := true, laidLooks := .later }
def LogWritesCardSaid : Prop := Claim7.holds Tryz.pinned (.plain (OpenSpec.ofChange logWritesSpec)) logWritesCard

/-- THE SECOND FORM's CARD OF 'reparteelaw30.LogPrints'. -/
def logPrintsUptoCard : Claim7 := { stood := { row := logPrintsUptoRow, standIns := [], harness := (true, "60eb273273a662c93571fe66e69a114ae4d68927fa854e6e93562a23bdd5a856"), looks := true }, kinds := [], alts := [], laidByText := true, laidKinds := [.data, .data, .data, .data, .sentinel, .sentinel, .data, .data, .pinned], laidTests := true, laidLooks := .later }
def LogPrintsUptoCardSaid : Prop := Claim7.holds Tryz.pinned (.plain (OpenSpec.upto logPrintsSpec)) logPrintsUptoCard

/-- THE SECOND FORM's CARD OF 'reparteelaw30.LogParses'. -/
def logParsesUptoCard : Claim7 := { stood := { row := logParsesUptoRow, standIns := [], harness := (true, "60eb273273a662c93571fe66e69a114ae4d68927fa854e6e93562a23bdd5a856"), looks := true }, kinds := [], alts := [], laidByText := true, laidKinds := [.data, .data, .data, .data, .sentinel, .sentinel, .data, .data, .pinned], laidTests := true, laidLooks := .later }
def LogParsesUptoCardSaid : Prop := Claim7.holds Tryz.pinned (.plain (OpenSpec.upto logParsesSpec)) logParsesUptoCard

/-- THE SECOND FORM's CARD OF 'reparteelaw30.LogWrites'. -/
def logWritesUptoCard : Claim7 := { stood := { row := logWritesUptoRow, standIns := [], harness := (true, "60eb273273a662c93571fe66e69a114ae4d68927fa854e6e93562a23bdd5a856"), looks := true }, kinds := [], alts := [], laidByText := true, laidKinds := [.data, .data, .data, .data, .sentinel, .sentinel, .data, .data, .pinned], laidTests := true, laidLooks := .later }
def LogWritesUptoCardSaid : Prop := Claim7.holds Tryz.pinned (.plain (OpenSpec.upto logWritesSpec)) logWritesUptoCard
end Rows
end Go.Proofs.YtfhhkmjjifbfeaaGreatDoor
