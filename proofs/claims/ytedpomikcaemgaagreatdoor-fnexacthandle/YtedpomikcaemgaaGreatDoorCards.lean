/-
  DERIVED. GIVEN WITH THE SEED: THE CARDS: each row of YtedpomikcaemgaaGreatDoorRows.lean that lists a variable, with what it lists TIED to the program's text (the seventh form; the later family's looks); each row that meets fmt, with fmt's text TOLD by the authors' own Lean function (tested against real Go, not proved from fmt's source: count such statements apart). THE CARD IS WHAT COUNTS. Prove the row's statement (the work); the ties are given (YtedpomikcaemgaaGreatDoorTie.lean); close each card by the builder's one call (the guide's Derived/Test/ToyasCard.lean, 'card_holds'). Laid BY PROGRAM, IN A SANDBOX (cutbox-door.mjs). By AI agents, Wed Nov 11 2026. No macro, syntax, notation, axiom, sorry.
-/
import Derived.Test.YtedpomikcaemgaaGreatDoorRows
import GoSem.ClaimSeven
namespace Go.Proofs.YtedpomikcaemgaaGreatDoor
namespace Rows

/-- THE TIED CARD OF 'laws.FnExactHandle'. -/
def fnExactHandleCard : Claim7 := { stood := { row := fnExactHandleRow, standIns := [], harness := (true, "6dceb5ee899240014e2c072217ca077582ccb56fb7ddc4213b240291a5fecb6e"), looks := true }, kinds := [], alts := [], laidByText := true, laidKinds := [.handle, .sentinel, .sentinel, .sentinel, .sentinel, .sentinel, .sentinel, .sentinel, .sentinel, .sentinel, .sentinel, .sentinel, .sentinel, .sentinel, .sentinel, .sentinel, .sentinel, .sentinel, .sentinel], laidTests := true, laidLooks := .later }
def FnExactHandleCardSaid : Prop := Claim7.holds Tryz.pinned (.plain (OpenSpec.ofChange fnExactHandleSpec)) fnExactHandleCard

/-- THE SECOND FORM's CARD OF 'laws.FnExactHandle'. -/
def fnExactHandleUptoCard : Claim7 := { stood := { row := fnExactHandleUptoRow, standIns := [], harness := (true, "6dceb5ee899240014e2c072217ca077582ccb56fb7ddc4213b240291a5fecb6e"), looks := true }, kinds := [], alts := [], laidByText := true, laidKinds := [.handle, .sentinel, .sentinel, .sentinel, .sentinel, .sentinel, .sentinel, .sentinel, .sentinel, .sentinel, .sentinel, .sentinel, .sentinel, .sentinel, .sentinel, .sentinel, .sentinel, .sentinel, .sentinel], laidTests := true, laidLooks := .later }
def FnExactHandleUptoCardSaid : Prop := Claim7.holds Tryz.pinned (.plain (OpenSpec.upto fnExactHandleSpec)) fnExactHandleUptoCard
end Rows
end Go.Proofs.YtedpomikcaemgaaGreatDoor
