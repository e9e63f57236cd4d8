/-
  DERIVED. GIVEN WITH THE SEED: THE CARDS: each row of YtemfhnnkkmiamaaGreatDoorRows.lean that lists a variable, with what it lists TIED to the program's text (the seventh form; the later family's looks); each row that meets fmt, with fmt's text TOLD by the authors' own Lean function (tested against real Go, not proved from fmt's source: count such statements apart). THE CARD IS WHAT COUNTS. Prove the row's statement (the work); the ties are given (YtemfhnnkkmiamaaGreatDoorTie.lean); close each card by the builder's one call (the guide's Derived/Test/ToyasCard.lean, 'card_holds'). Laid BY PROGRAM, IN A SANDBOX (cutbox-door.mjs). By AI agents, Wed Nov 11 2026. No macro, syntax, notation, axiom, sorry.
-/
import Derived.Test.YtemfhnnkkmiamaaGreatDoorRows
import GoSem.ClaimSeven
namespace Go.Proofs.YtemfhnnkkmiamaaGreatDoor
namespace Rows

/-- THE TIED CARD OF 'laws.FnExactParseCmd'. -/
def fnExactParseCmdCard : Claim7 := { stood := { row := fnExactParseCmdRow, standIns := [], harness := (true, "717942aef455f16434fe58477b31748c7d6452359c188c729dbceead2513718d"), looks := true }, kinds := [], alts := [], goes := true, laidByText := true, laidKinds := [.data, .handle, .sentinel, .sentinel, .sentinel, .sentinel, .sentinel, .sentinel, .sentinel, .sentinel, .sentinel, .sentinel, .sentinel, .sentinel, .sentinel, .sentinel, .sentinel, .sentinel, .sentinel, .sentinel, .sentinel, .sentinel, .pinned], laidTests := true, laidLooks := .later }
def FnExactParseCmdCardSaid : Prop := Claim7.holds Tryz.pinned (.plain (OpenSpec.ofChange fnExactParseCmdSpec)) fnExactParseCmdCard

/-- THE SECOND FORM's CARD OF 'laws.FnExactParseCmd'. -/
def fnExactParseCmdUptoCard : Claim7 := { stood := { row := fnExactParseCmdUptoRow, standIns := [], harness := (true, "717942aef455f16434fe58477b31748c7d6452359c188c729dbceead2513718d"), looks := true }, kinds := [], alts := [], goes := true, laidByText := true, laidKinds := [.data, .handle, .sentinel, .sentinel, .sentinel, .sentinel, .sentinel, .sentinel, .sentinel, .sentinel, .sentinel, .sentinel, .sentinel, .sentinel, .sentinel, .sentinel, .sentinel, .sentinel, .sentinel, .sentinel, .sentinel, .sentinel, .pinned], laidTests := true, laidLooks := .later }
def FnExactParseCmdUptoCardSaid : Prop := Claim7.holds Tryz.pinned (.plain (OpenSpec.upto fnExactParseCmdSpec)) fnExactParseCmdUptoCard
end Rows
end Go.Proofs.YtemfhnnkkmiamaaGreatDoor
