/-
  NARROWER THAN 'FOR EVERY INPUT', by the rows' own cells (each row's printed sentence says how): FnChunks: ifaces, laid.
  DERIVED. THE GIVEN ROWS OF THIS SEAT. 1 by the template 'for every input the law returns true; each argument reads behind the call as it read before'; 0 by the template 'total and deterministic' (their statements: YthkppnmnjboiaaaDoorTotals.lean).
  GIVEN WITH THE SEED: the statements are not yours to turn. If you find one false, say at which input.
  Laid BY PROGRAM, IN A SANDBOX (cutbox-rows.mjs): the forced cells as the released guide's own fill.sh prints them over the translation 67449d12ed64ec37… (all of the seat's roots in one cut). By AI agents, Wed Nov 11 2026. No macro, syntax, notation, axiom, sorry.
-/
import Derived.Test.YthkppnmnjboiaaaDoorChecked
import GoSem.Claim
import GoSem.ClaimJoined
import GoSem.ClaimMapViews
import Derived.JoinedTies
import Derived.KernelRfl
namespace Go.Proofs.YthkppnmnjboiaaaDoor
/- THE CELL 'sum', in the pinned program and in every row, IS THE sha256 OF THE DUMP (.gsa) THAT YthkppnmnjboiaaaDoorProg.lean LOADS. Nothing in Lean hashes anything: it is a label: what it is worth is what the hold of that sum in a sandbox is worth. -/
noncomputable def Tryd.pinned : Pinned := { name := "ythkppnmnjboiaaadoor", sum := "67449d12ed64ec374ac644cd0907a5440dbfc62bddc6483789c9a7a2299a53fa", checked := Tryd.checked }
namespace Rows
def none {H : Type} : Left H := { results := [], args := [] }

/- WHAT THE LISTED PACKAGE-LEVEL VARIABLES READ AS WHEN THE CALL BEGINS. Each datum BY PROGRAM (the guide's laid-datum.mjs) off the statement by which the dump's own 'gosem.cut.vars' lays the variable. In a bare row this is a premise. The card (YthkppnmnjboiaaaDoorCards.lean) ties it to the program's text. -/
def laid_loop_example_s02772_impl_errEnds {H : Type} : DataW H := .iface "*errors.errorString" (.ptr (.agg [.lit (.string [116, 104, 101, 32, 98, 121, 116, 101, 115, 32, 101, 110, 100, 32, 116, 111, 111, 32, 101, 97, 114, 108, 121])]))
def laid_loop_example_s02772_impl_errTenth {H : Type} : DataW H := .iface "*errors.errorString" (.ptr (.agg [.lit (.string [116, 104, 101, 32, 116, 101, 110, 116, 104, 32, 98, 121, 116, 101, 32, 105, 115, 32, 97, 98, 111, 118, 101, 32, 49])]))
def laid_loop_example_s02772_impl_errShorter {H : Type} : DataW H := .iface "*errors.errorString" (.ptr (.agg [.lit (.string [116, 104, 101, 32, 118, 97, 114, 105, 110, 116, 32, 99, 111, 117, 108, 100, 32, 98, 101, 32, 115, 104, 111, 114, 116, 101, 114])]))

/-- 'laws.FnChunks': WHATEVER THE INPUT: true; the input reads as it did. -/
def fnChunksSpec : ChangeSpec := { name := "fnChunks", vars := ["loop.example/s02772/impl.errEnds", "loop.example/s02772/impl.errTenth", "loop.example/s02772/impl.errShorter"], fn := fun _ => fun
  | [d1, d2, g1, g2, g3] => { results := [.lit (.bool true)], args := [d1, d2], vars := [g1, g2, g3] }
  | _ => none }
def fnChunksRow : OpenClaim := { program := "ythkppnmnjboiaaadoor", sum := "67449d12ed64ec374ac644cd0907a5440dbfc62bddc6483789c9a7a2299a53fa", func := "loop.example/s02772/laws.FnChunks", spec := "fnChunks", inPlace := ["internal/reflectlite.TypeOf"], unfollowed := true, recurses := true, named := ["loop.example/s02772/impl.errEnds", "loop.example/s02772/impl.errTenth", "loop.example/s02772/impl.errShorter"], ifaces := true, apart := false, laid := [("loop.example/s02772/impl.errEnds", laid_loop_example_s02772_impl_errEnds), ("loop.example/s02772/impl.errTenth", laid_loop_example_s02772_impl_errTenth), ("loop.example/s02772/impl.errShorter", laid_loop_example_s02772_impl_errShorter)] }
def FnChunksSaid : Prop := fnChunksRow.holds Tryd.pinned (OpenSpec.ofChange fnChunksSpec)

/-- ITS FALSE NEIGHBOUR: 'it returns false'. Refute it at one input. -/
def fnChunksWrong : ChangeSpec := { name := "fnChunks", vars := ["loop.example/s02772/impl.errEnds", "loop.example/s02772/impl.errTenth", "loop.example/s02772/impl.errShorter"], fn := fun _ => fun
  | [d1, d2, g1, g2, g3] => { results := [.lit (.bool false)], args := [d1, d2], vars := [g1, g2, g3] }
  | _ => none }
def FnChunksWrongFalsely : Prop := fnChunksRow.holds Tryd.pinned (OpenSpec.ofChange fnChunksWrong)

/- THE SECOND FORM. 'bulk': how many values and letters a reading holds, each counted each time it is reached (what is shared counts as often as it is met; a slice's spare places count too). A statement '..UptoSaid' is the law's where the arguments, and the package variables that the reading takes, are together of bulk at most 1048576: NARROWER than '..Said'. Prove '..Said' where nothing that the law and all that it calls make is longer than what came in: it says more and counts as full. Else prove '..UptoSaid'. A law counts once. -/
mutual
def uptoBulk {H : Type} : DataW H → Nat
  | .lit (.string bytes) => bytes.length + 1
  | .lit _ => 1
  | .nil => 1
  | .ptr d => uptoBulk d + 1
  | .slice elems spare => uptoBulkAll elems + uptoBulkAll spare + 1
  | .agg parts => uptoBulkAll parts + 1
  | .iface _ d => uptoBulk d + 1
  | .map entries => uptoBulkEntries entries + 1
  | .held _ => 1
def uptoBulkAll {H : Type} : List (DataW H) → Nat
  | [] => 0
  | d :: r => uptoBulk d + uptoBulkAll r
def uptoBulkEntries {H : Type} : List (Lit × DataW H) → Nat
  | [] => 0
  | x :: r => uptoBulkEntry x + uptoBulkEntries r
def uptoBulkEntry {H : Type} : Lit × DataW H → Nat
  | (.string bytes, d) => bytes.length + uptoBulk d + 1
  | (_, d) => uptoBulk d + 1
 end
def uptoSmall : (H : Type) → List (DataW H) → Bool := fun _ ds => decide (uptoBulkAll ds ≤ 1048576)
def OpenSpec.upto (s : _root_.Go.ChangeSpec) : _root_.Go.OpenSpec := { _root_.Go.OpenSpec.ofChange s with cond := some uptoSmall }

/-- 'laws.FnChunks', WHERE WHAT IT READS IS OF BULK AT MOST 1048576: true; the input reads as it did. -/
def fnChunksUptoRow : OpenClaim := { program := "ythkppnmnjboiaaadoor", sum := "67449d12ed64ec374ac644cd0907a5440dbfc62bddc6483789c9a7a2299a53fa", func := "loop.example/s02772/laws.FnChunks", spec := "fnChunks", inPlace := ["internal/reflectlite.TypeOf"], unfollowed := true, recurses := true, named := ["loop.example/s02772/impl.errEnds", "loop.example/s02772/impl.errTenth", "loop.example/s02772/impl.errShorter"], ifaces := true, apart := false, laid := [("loop.example/s02772/impl.errEnds", laid_loop_example_s02772_impl_errEnds), ("loop.example/s02772/impl.errTenth", laid_loop_example_s02772_impl_errTenth), ("loop.example/s02772/impl.errShorter", laid_loop_example_s02772_impl_errShorter)], narrowed := true }
def FnChunksUptoSaid : Prop := fnChunksUptoRow.holds Tryd.pinned (OpenSpec.upto fnChunksSpec)

end Rows
end Go.Proofs.YthkppnmnjboiaaaDoor
