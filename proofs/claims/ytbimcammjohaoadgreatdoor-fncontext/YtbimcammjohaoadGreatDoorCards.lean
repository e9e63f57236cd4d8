/-
  DERIVED. GIVEN WITH THE SEED: THE CARDS: each row of YtbimcammjohaoadGreatDoorRows.lean that lists a variable, with what it lists TIED to the program's text (the seventh form; the later family's looks); each row that meets fmt, with fmt's text TOLD by the authors' own Lean function (tested against real Go, not proved from fmt's source: count such statements apart). THE CARD IS WHAT COUNTS. Prove the row's statement (the work); the ties are given (YtbimcammjohaoadGreatDoorTie.lean); close each card by the builder's one call (the guide's Derived/Test/ToyasCard.lean, 'card_holds'). Laid BY PROGRAM, IN A SANDBOX (cutbox-door.mjs). By AI agents, Wed Nov 11 2026. No macro, syntax, notation, axiom, sorry.
-/
import Derived.Test.YtbimcammjohaoadGreatDoorRows
import GoSem.ClaimSeven
namespace Go.Proofs.YtbimcammjohaoadGreatDoor
namespace Rows

/-- THE TIED CARD OF 'laws.FnContext'. -/
def fnContextCard : Claim7 := { stood := { row := fnContextRow, standIns := [], harness := (true, "40b38780e05a059991932c459b3ddc17db52d3fb0a11ccdaf0c64d92e8ae4e6d"), looks := true }, kinds := [], alts := [], laidByText := true, laidKinds := [.handle, .sentinel, .sentinel, .sentinel, .sentinel, .sentinel, .sentinel], laidTests := true, laidLooks := .later }
def FnContextCardSaid : Prop := Claim7.holds Tryz.pinned (.plain (OpenSpec.ofChange fnContextSpec)) fnContextCard

/-- THE SECOND FORM's CARD OF 'laws.FnContext'. -/
def fnContextUptoCard : Claim7 := { stood := { row := fnContextUptoRow, standIns := [], harness := (true, "40b38780e05a059991932c459b3ddc17db52d3fb0a11ccdaf0c64d92e8ae4e6d"), looks := true }, kinds := [], alts := [], laidByText := true, laidKinds := [.handle, .sentinel, .sentinel, .sentinel, .sentinel, .sentinel, .sentinel], laidTests := true, laidLooks := .later }
def FnContextUptoCardSaid : Prop := Claim7.holds Tryz.pinned (.plain (OpenSpec.upto fnContextSpec)) fnContextUptoCard
end Rows
end Go.Proofs.YtbimcammjohaoadGreatDoor
