/-
  DERIVED. GIVEN WITH THE SEED: THE CARDS: each row of YtbimcammjohaoabDoorRows.lean that lists a variable, with what it lists TIED to the program's text (the seventh form; the later family's looks); each row that meets fmt, with fmt's text TOLD by the authors' own Lean function (tested against real Go, not proved from fmt's source: count such statements apart). THE CARD IS WHAT COUNTS. Prove the row's statement (the work); the ties are given (YtbimcammjohaoabDoorTie.lean); close each card by the builder's one call (the guide's Derived/Test/ToyasCard.lean, 'card_holds'). Laid BY PROGRAM, IN A SANDBOX (cutbox-door.mjs). By AI agents, Wed Nov 11 2026. No macro, syntax, notation, axiom, sorry.
-/
import Derived.Test.YtbimcammjohaoabDoorRows
import GoSem.ClaimSeven
namespace Go.Proofs.YtbimcammjohaoabDoor
namespace Rows

/-- THE TIED CARD OF 'laws.FnFramed'. -/
def fnFramedCard : Claim7 := { stood := { row := fnFramedRow, standIns := [], harness := (true, "dfc65813babc5280214a702cb5fab8e88cf029b04caae3e1f610c9b3c0d3dd0f"), looks := true }, kinds := [], alts := [], laidByText := true, laidKinds := [.sentinel, .sentinel, .sentinel], laidTests := true, laidLooks := .later }
def FnFramedCardSaid : Prop := Claim7.holds Tryd.pinned (.plain (OpenSpec.ofChange fnFramedSpec)) fnFramedCard

/-- THE SECOND FORM's CARD OF 'laws.FnFramed'. -/
def fnFramedUptoCard : Claim7 := { stood := { row := fnFramedUptoRow, standIns := [], harness := (true, "dfc65813babc5280214a702cb5fab8e88cf029b04caae3e1f610c9b3c0d3dd0f"), looks := true }, kinds := [], alts := [], laidByText := true, laidKinds := [.sentinel, .sentinel, .sentinel], laidTests := true, laidLooks := .later }
def FnFramedUptoCardSaid : Prop := Claim7.holds Tryd.pinned (.plain (OpenSpec.upto fnFramedSpec)) fnFramedUptoCard
end Rows
end Go.Proofs.YtbimcammjohaoabDoor
