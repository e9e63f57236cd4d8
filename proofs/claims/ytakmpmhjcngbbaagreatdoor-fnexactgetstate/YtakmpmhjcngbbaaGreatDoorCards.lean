/-
  DERIVED. GIVEN WITH THE SEED: THE CARDS: each row of YtakmpmhjcngbbaaGreatDoorRows.lean that lists a variable, with what it lists TIED to the program's text (the seventh form; the later family's looks); each row that meets fmt, with fmt's text TOLD by the authors' own Lean function (tested against real Go, not proved from fmt's source: count such statements apart). THE CARD IS WHAT COUNTS. Prove the row's statement (the work); the ties are given (YtakmpmhjcngbbaaGreatDoorTie.lean); close each card by the builder's one call (the guide's Derived/Test/ToyasCard.lean, 'card_holds'). Laid BY PROGRAM, IN A SANDBOX (cutbox-door.mjs). By AI agents, Wed Nov 11 2026. No macro, syntax, notation, axiom, sorry.
-/
import Derived.Test.YtakmpmhjcngbbaaGreatDoorRows
import GoSem.ClaimSeven
namespace Go.Proofs.YtakmpmhjcngbbaaGreatDoor
namespace Rows

/-- THE TIED CARD OF 'laws.FnExactGetState'. -/
def fnExactGetStateCard : Claim7 := { stood := { row := fnExactGetStateRow, standIns := [], harness := (true, "edf7cd65f2490d2cfe6d7d2a2b356a4f211f90c5dbd31c882a43bd731c87d437"), looks := false }, kinds := [], alts := [], laidByText := true, laidKinds := [.sentinel, .sentinel, .sentinel, .sentinel, .sentinel, .sentinel, .sentinel, .sentinel, .sentinel, .sentinel, .sentinel, .sentinel, .sentinel, .sentinel, .sentinel], laidTests := true, laidLooks := .later }
def FnExactGetStateCardSaid : Prop := Claim7.holds Tryz.pinned (.plain (OpenSpec.ofChange fnExactGetStateSpec)) fnExactGetStateCard

/-- THE SECOND FORM's CARD OF 'laws.FnExactGetState'. -/
def fnExactGetStateUptoCard : Claim7 := { stood := { row := fnExactGetStateUptoRow, standIns := [], harness := (true, "edf7cd65f2490d2cfe6d7d2a2b356a4f211f90c5dbd31c882a43bd731c87d437"), looks := false }, kinds := [], alts := [], laidByText := true, laidKinds := [.sentinel, .sentinel, .sentinel, .sentinel, .sentinel, .sentinel, .sentinel, .sentinel, .sentinel, .sentinel, .sentinel, .sentinel, .sentinel, .sentinel, .sentinel], laidTests := true, laidLooks := .later }
def FnExactGetStateUptoCardSaid : Prop := Claim7.holds Tryz.pinned (.plain (OpenSpec.upto fnExactGetStateSpec)) fnExactGetStateUptoCard
end Rows
end Go.Proofs.YtakmpmhjcngbbaaGreatDoor
