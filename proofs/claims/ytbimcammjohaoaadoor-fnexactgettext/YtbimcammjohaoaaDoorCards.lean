/-
  DERIVED. GIVEN WITH THE SEED: THE CARDS: each row of YtbimcammjohaoaaDoorRows.lean that lists a variable, with what it lists TIED to the program's text (the seventh form; the later family's looks); each row that meets fmt, with fmt's text TOLD by the authors' own Lean function (tested against real Go, not proved from fmt's source: count such statements apart). THE CARD IS WHAT COUNTS. Prove the row's statement (the work); the ties are given (YtbimcammjohaoaaDoorTie.lean); close each card by the builder's one call (the guide's Derived/Test/ToyasCard.lean, 'card_holds'). Laid BY PROGRAM, IN A SANDBOX (cutbox-door.mjs). By AI agents, Wed Nov 11 2026. No macro, syntax, notation, axiom, sorry.
-/
import Derived.Test.YtbimcammjohaoaaDoorRows
import GoSem.ClaimSeven
namespace Go.Proofs.YtbimcammjohaoaaDoor
namespace Rows

/-- THE TIED CARD OF 'laws.FnExactGetUvarint'. -/
def fnExactGetUvarintCard : Claim7 := { stood := { row := fnExactGetUvarintRow, standIns := [], harness := (true, "8870433ebc04320cd96a9fd7a42dd2ebd9fbe4b13e688e9187dee8090d67720a"), looks := true }, kinds := [], alts := [], laidByText := true, laidKinds := [.handle, .sentinel, .sentinel, .sentinel, .sentinel], laidTests := true, laidLooks := .later }
def FnExactGetUvarintCardSaid : Prop := Claim7.holds Tryd.pinned (.plain (OpenSpec.ofChange fnExactGetUvarintSpec)) fnExactGetUvarintCard

/-- THE TIED CARD OF 'laws.FnExactGetText'. -/
def fnExactGetTextCard : Claim7 := { stood := { row := fnExactGetTextRow, standIns := [], harness := (true, "8870433ebc04320cd96a9fd7a42dd2ebd9fbe4b13e688e9187dee8090d67720a"), looks := true }, kinds := [], alts := [], laidByText := true, laidKinds := [.handle, .sentinel, .sentinel, .sentinel, .sentinel], laidTests := true, laidLooks := .later }
def FnExactGetTextCardSaid : Prop := Claim7.holds Tryd.pinned (.plain (OpenSpec.ofChange fnExactGetTextSpec)) fnExactGetTextCard

/-- THE SECOND FORM's CARD OF 'laws.FnExactGetUvarint'. -/
def fnExactGetUvarintUptoCard : Claim7 := { stood := { row := fnExactGetUvarintUptoRow, standIns := [], harness := (true, "8870433ebc04320cd96a9fd7a42dd2ebd9fbe4b13e688e9187dee8090d67720a"), looks := true }, kinds := [], alts := [], laidByText := true, laidKinds := [.handle, .sentinel, .sentinel, .sentinel, .sentinel], laidTests := true, laidLooks := .later }
def FnExactGetUvarintUptoCardSaid : Prop := Claim7.holds Tryd.pinned (.plain (OpenSpec.upto fnExactGetUvarintSpec)) fnExactGetUvarintUptoCard

/-- THE SECOND FORM's CARD OF 'laws.FnExactGetText'. -/
def fnExactGetTextUptoCard : Claim7 := { stood := { row := fnExactGetTextUptoRow, standIns := [], harness := (true, "8870433ebc04320cd96a9fd7a42dd2ebd9fbe4b13e688e9187dee8090d67720a"), looks := true }, kinds := [], alts := [], laidByText := true, laidKinds := [.handle, .sentinel, .sentinel, .sentinel, .sentinel], laidTests := true, laidLooks := .later }
def FnExactGetTextUptoCardSaid : Prop := Claim7.holds Tryd.pinned (.plain (OpenSpec.upto fnExactGetTextSpec)) fnExactGetTextUptoCard
end Rows
end Go.Proofs.YtbimcammjohaoaaDoor
