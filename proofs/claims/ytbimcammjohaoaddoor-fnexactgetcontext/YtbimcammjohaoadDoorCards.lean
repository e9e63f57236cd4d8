/-
  DERIVED. GIVEN WITH THE SEED: THE CARDS: each row of YtbimcammjohaoadDoorRows.lean that lists a variable, with what it lists TIED to the program's text (the seventh form; the later family's looks); each row that meets fmt, with fmt's text TOLD by the authors' own Lean function (tested against real Go, not proved from fmt's source: count such statements apart). THE CARD IS WHAT COUNTS. Prove the row's statement (the work); the ties are given (YtbimcammjohaoadDoorTie.lean); close each card by the builder's one call (the guide's Derived/Test/ToyasCard.lean, 'card_holds'). Laid BY PROGRAM, IN A SANDBOX (cutbox-door.mjs). By AI agents, Wed Nov 11 2026. No macro, syntax, notation, axiom, sorry.
-/
import Derived.Test.YtbimcammjohaoadDoorRows
import GoSem.ClaimSeven
namespace Go.Proofs.YtbimcammjohaoadDoor
namespace Rows

/-- THE TIED CARD OF 'laws.FnExactGetContext'. -/
def fnExactGetContextCard : Claim7 := { stood := { row := fnExactGetContextRow, standIns := [], harness := (true, "e71e28679b92e63caffd0a531d92039804503a75fc7ce1051d4c8047bb8703f9"), looks := true }, kinds := [], alts := [], laidByText := true, laidKinds := [.handle, .sentinel, .sentinel, .sentinel, .sentinel, .sentinel, .sentinel], laidTests := true, laidLooks := .later }
def FnExactGetContextCardSaid : Prop := Claim7.holds Tryd.pinned (.plain (OpenSpec.ofChange fnExactGetContextSpec)) fnExactGetContextCard

/-- THE TIED CARD OF 'laws.FnExactFeed'. -/
def fnExactFeedCard : Claim7 := { stood := { row := fnExactFeedRow, standIns := [], harness := (true, "e71e28679b92e63caffd0a531d92039804503a75fc7ce1051d4c8047bb8703f9"), looks := true }, kinds := [], alts := [], laidByText := true, laidKinds := [.sentinel, .sentinel, .sentinel], laidTests := true, laidLooks := .later }
def FnExactFeedCardSaid : Prop := Claim7.holds Tryd.pinned (.plain (OpenSpec.ofChange fnExactFeedSpec)) fnExactFeedCard

/-- THE SECOND FORM's CARD OF 'laws.FnExactGetContext'. -/
def fnExactGetContextUptoCard : Claim7 := { stood := { row := fnExactGetContextUptoRow, standIns := [], harness := (true, "e71e28679b92e63caffd0a531d92039804503a75fc7ce1051d4c8047bb8703f9"), looks := true }, kinds := [], alts := [], laidByText := true, laidKinds := [.handle, .sentinel, .sentinel, .sentinel, .sentinel, .sentinel, .sentinel], laidTests := true, laidLooks := .later }
def FnExactGetContextUptoCardSaid : Prop := Claim7.holds Tryd.pinned (.plain (OpenSpec.upto fnExactGetContextSpec)) fnExactGetContextUptoCard

/-- THE SECOND FORM's CARD OF 'laws.FnExactFeed'. -/
def fnExactFeedUptoCard : Claim7 := { stood := { row := fnExactFeedUptoRow, standIns := [], harness := (true, "e71e28679b92e63caffd0a531d92039804503a75fc7ce1051d4c8047bb8703f9"), looks := true }, kinds := [], alts := [], laidByText := true, laidKinds := [.sentinel, .sentinel, .sentinel], laidTests := true, laidLooks := .later }
def FnExactFeedUptoCardSaid : Prop := Claim7.holds Tryd.pinned (.plain (OpenSpec.upto fnExactFeedSpec)) fnExactFeedUptoCard
end Rows
end Go.Proofs.YtbimcammjohaoadDoor
