/-
  NARROWER THAN 'FOR EVERY INPUT', by the rows' own cells (each row's printed sentence says how): FnSync: ifaces, laid.
  DERIVED. THE GIVEN ROWS OF THIS SEAT. 1 by the template 'for every input the law returns true; each argument reads behind the call as it read before'; 0 by the template 'total and deterministic' (their statements: YtmlmkaiibamabaaGreatDoorTotals.lean).
  GIVEN WITH THE SEED: the statements are not yours to turn. If you find one false, say at which input.
  Laid BY PROGRAM, IN A SANDBOX (cutbox-rows.mjs): the forced cells as the released guide's own fill.sh prints them over the translation c64ec8b3d5951adf… (all of the seat's roots in one cut). By AI agents, Wed Nov 11 2026. No macro, syntax, notation, axiom, sorry.
-/
import Derived.Test.YtmlmkaiibamabaaGreatDoorChecked
import GoSem.Claim
import GoSem.ClaimJoined
import GoSem.ClaimMapViews
import Derived.JoinedTies
import Derived.KernelRfl
namespace Go.Proofs.YtmlmkaiibamabaaGreatDoor
/- THE CELL 'sum', in the pinned program and in every row, IS THE sha256 OF THE DUMP (.gsa) THAT YtmlmkaiibamabaaGreatDoorProg.lean LOADS. Nothing in Lean hashes anything: it is a label: what it is worth is what the hold of that sum in a sandbox is worth. -/
noncomputable def Tryz.pinned : Pinned := { name := "ytmlmkaiibamabaagreatdoor", sum := "c64ec8b3d5951adfb8d0a54a5fca6b9e965bdd5eb81795b64ca577ae41c51e53", checked := Tryz.checked }
namespace Rows
def none {H : Type} : Left H := { results := [], args := [] }

/- WHAT THE LISTED PACKAGE-LEVEL VARIABLES READ AS WHEN THE CALL BEGINS. Each datum BY PROGRAM (the guide's laid-datum.mjs) off the statement by which the dump's own 'gosem.cut.vars' lays the variable. In a bare row this is a premise. The card (YtmlmkaiibamabaaGreatDoorCards.lean) ties it to the program's text. -/
def laid_errors_errorType {H : Type} : DataW H := .iface "internal/reflectlite.rtype" (.agg [.ptr (.lit (.string [101, 114, 114, 111, 114]))])
def laid_loop_example_s02772_impl_errEnds {H : Type} : DataW H := .iface "*errors.errorString" (.ptr (.agg [.lit (.string [116, 104, 101, 32, 98, 121, 116, 101, 115, 32, 101, 110, 100, 32, 116, 111, 111, 32, 101, 97, 114, 108, 121])]))
def laid_loop_example_s02772_impl_errTenth {H : Type} : DataW H := .iface "*errors.errorString" (.ptr (.agg [.lit (.string [116, 104, 101, 32, 116, 101, 110, 116, 104, 32, 98, 121, 116, 101, 32, 105, 115, 32, 97, 98, 111, 118, 101, 32, 49])]))
def laid_loop_example_s02772_impl_errShorter {H : Type} : DataW H := .iface "*errors.errorString" (.ptr (.agg [.lit (.string [116, 104, 101, 32, 118, 97, 114, 105, 110, 116, 32, 99, 111, 117, 108, 100, 32, 98, 101, 32, 115, 104, 111, 114, 116, 101, 114])]))
def laid_loop_example_s02772_impl_errTooLong {H : Type} : DataW H := .iface "*errors.errorString" (.ptr (.agg [.lit (.string [116, 104, 101, 32, 108, 101, 110, 103, 116, 104, 32, 105, 115, 32, 97, 98, 111, 118, 101, 32, 116, 104, 101, 32, 108, 105, 109, 105, 116])]))
def laid_loop_example_s02772_impl_errLimit {H : Type} : DataW H := .iface "*errors.errorString" (.ptr (.agg [.lit (.string [97, 32, 110, 117, 109, 98, 101, 114, 32, 105, 115, 32, 97, 98, 111, 118, 101, 32, 105, 116, 115, 32, 108, 105, 109, 105, 116])]))
def laid_loop_example_s02772_impl_errOrder {H : Type} : DataW H := .iface "*errors.errorString" (.ptr (.agg [.lit (.string [111, 117, 116, 32, 111, 102, 32, 111, 114, 100, 101, 114])]))
def laid_loop_example_s02772_impl_errNoRuns {H : Type} : DataW H := .iface "*errors.errorString" (.ptr (.agg [.lit (.string [97, 32, 114, 101, 112, 108, 105, 99, 97, 32, 104, 97, 115, 32, 110, 111, 32, 114, 117, 110, 115])]))
def laid_loop_example_s02772_impl_errBehind {H : Type} : DataW H := .iface "*errors.errorString" (.ptr (.agg [.lit (.string [98, 121, 116, 101, 115, 32, 115, 116, 97, 110, 100, 32, 98, 101, 104, 105, 110, 100, 32, 116, 104, 101, 32, 101, 110, 100])]))
def laid_loop_example_s02772_impl_errNoName {H : Type} : DataW H := .iface "*errors.errorString" (.ptr (.agg [.lit (.string [97, 32, 110, 97, 109, 101, 32, 104, 97, 115, 32, 110, 111, 32, 98, 121, 116, 101, 115])]))
def laid_loop_example_s02772_impl_errKind {H : Type} : DataW H := .iface "*errors.errorString" (.ptr (.agg [.lit (.string [116, 104, 101, 114, 101, 32, 105, 115, 32, 110, 111, 32, 115, 117, 99, 104, 32, 107, 105, 110, 100])]))
def laid_loop_example_s02772_impl_errDeep {H : Type} : DataW H := .iface "*errors.errorString" (.ptr (.agg [.lit (.string [97, 32, 112, 97, 116, 104, 32, 104, 97, 115, 32, 116, 111, 111, 32, 109, 97, 110, 121, 32, 110, 97, 109, 101, 115])]))
def laid_loop_example_s02772_impl_errNoKeys {H : Type} : DataW H := .iface "*errors.errorString" (.ptr (.agg [.lit (.string [97, 32, 109, 97, 112, 32, 119, 105, 116, 104, 105, 110, 32, 116, 104, 101, 32, 116, 114, 101, 101, 32, 104, 97, 115, 32, 110, 111, 32, 107, 101, 121, 115])]))
def laid_loop_example_s02772_impl_errNoLeaves {H : Type} : DataW H := .iface "*errors.errorString" (.ptr (.agg [.lit (.string [97, 32, 114, 101, 103, 105, 115, 116, 101, 114, 32, 111, 114, 32, 102, 108, 97, 103, 32, 104, 97, 115, 32, 110, 111, 32, 108, 101, 97, 118, 101, 115])]))
def laid_loop_example_s02772_impl_errUnknown {H : Type} : DataW H := .iface "*errors.errorString" (.ptr (.agg [.lit (.string [97, 32, 100, 111, 116, 32, 105, 115, 32, 110, 111, 116, 32, 105, 110, 32, 116, 104, 101, 32, 99, 111, 110, 116, 101, 120, 116])]))
def laid_loop_example_s02772_impl_errTwice {H : Type} : DataW H := .iface "*errors.errorString" (.ptr (.agg [.lit (.string [97, 32, 100, 111, 116, 32, 99, 111, 109, 101, 115, 32, 116, 119, 105, 99, 101])]))
def laid_loop_example_s02772_impl_errReplica {H : Type} : DataW H := .iface "*errors.errorString" (.ptr (.agg [.lit (.string [116, 104, 101, 32, 114, 101, 112, 108, 105, 99, 97, 32, 105, 115, 32, 110, 111, 116, 32, 118, 97, 108, 105, 100])]))
def laid_loop_example_s02772_impl_errHello {H : Type} : DataW H := .iface "*errors.errorString" (.ptr (.agg [.lit (.string [97, 32, 104, 101, 108, 108, 111, 32, 104, 97, 115, 32, 97, 110, 111, 116, 104, 101, 114, 32, 108, 101, 110, 103, 116, 104])]))
def laid_loop_example_s02772_impl_errNoRoom {H : Type} : DataW H := .iface "*errors.errorString" (.ptr (.agg [.lit (.string [97, 32, 115, 116, 97, 116, 101, 32, 119, 111, 117, 108, 100, 32, 98, 101, 32, 97, 98, 111, 118, 101, 32, 105, 116, 115, 32, 108, 105, 109, 105, 116, 115])]))

/-- 'laws.FnSync': WHATEVER THE INPUT: true; the input reads as it did. -/
def fnSyncSpec : ChangeSpec := { name := "fnSync", vars := ["loop.example/s02772/impl.errReplica", "loop.example/s02772/impl.errKind", "loop.example/s02772/impl.errHello", "loop.example/s02772/impl.errTooLong", "loop.example/s02772/impl.errBehind", "loop.example/s02772/impl.errLimit", "loop.example/s02772/impl.errEnds", "loop.example/s02772/impl.errTenth", "loop.example/s02772/impl.errShorter", "loop.example/s02772/impl.errOrder", "loop.example/s02772/impl.errNoRuns", "loop.example/s02772/impl.errNoKeys", "loop.example/s02772/impl.errDeep", "loop.example/s02772/impl.errNoName", "loop.example/s02772/impl.errNoLeaves", "loop.example/s02772/impl.errUnknown", "loop.example/s02772/impl.errTwice", "loop.example/s02772/impl.errNoRoom"], fn := fun _ => fun
  | [d, g1, g2, g3, g4, g5, g6, g7, g8, g9, g10, g11, g12, g13, g14, g15, g16, g17, g18] => { results := [.lit (.bool true)], args := [d], vars := [g1, g2, g3, g4, g5, g6, g7, g8, g9, g10, g11, g12, g13, g14, g15, g16, g17, g18] }
  | _ => none }
def fnSyncRow : OpenClaim := { program := "ytmlmkaiibamabaagreatdoor", sum := "c64ec8b3d5951adfb8d0a54a5fca6b9e965bdd5eb81795b64ca577ae41c51e53", func := "loop.example/s02772/laws.FnSync", spec := "fnSync", inPlace := ["internal/reflectlite.ValueOf", "(internal/reflectlite.Value).Type", "(internal/reflectlite.Value).IsNil", "internal/reflectlite.TypeOf", "(internal/reflectlite.Value).Elem", "(internal/reflectlite.Value).Set"], unfollowed := true, recurses := true, named := ["loop.example/s02772/impl.errReplica", "loop.example/s02772/impl.errKind", "loop.example/s02772/impl.errHello", "loop.example/s02772/impl.errTooLong", "loop.example/s02772/impl.errBehind", "loop.example/s02772/impl.errLimit", "loop.example/s02772/impl.errEnds", "loop.example/s02772/impl.errTenth", "loop.example/s02772/impl.errShorter", "loop.example/s02772/impl.errOrder", "loop.example/s02772/impl.errNoRuns", "loop.example/s02772/impl.errNoKeys", "loop.example/s02772/impl.errDeep", "loop.example/s02772/impl.errNoName", "loop.example/s02772/impl.errNoLeaves", "loop.example/s02772/impl.errUnknown", "loop.example/s02772/impl.errTwice", "loop.example/s02772/impl.errNoRoom", "errors.errorType"], ifaces := true, plainKeys := false, apart := false, laid := [("errors.errorType", laid_errors_errorType), ("loop.example/s02772/impl.errEnds", laid_loop_example_s02772_impl_errEnds), ("loop.example/s02772/impl.errTenth", laid_loop_example_s02772_impl_errTenth), ("loop.example/s02772/impl.errShorter", laid_loop_example_s02772_impl_errShorter), ("loop.example/s02772/impl.errTooLong", laid_loop_example_s02772_impl_errTooLong), ("loop.example/s02772/impl.errLimit", laid_loop_example_s02772_impl_errLimit), ("loop.example/s02772/impl.errOrder", laid_loop_example_s02772_impl_errOrder), ("loop.example/s02772/impl.errNoRuns", laid_loop_example_s02772_impl_errNoRuns), ("loop.example/s02772/impl.errBehind", laid_loop_example_s02772_impl_errBehind), ("loop.example/s02772/impl.errNoName", laid_loop_example_s02772_impl_errNoName), ("loop.example/s02772/impl.errKind", laid_loop_example_s02772_impl_errKind), ("loop.example/s02772/impl.errDeep", laid_loop_example_s02772_impl_errDeep), ("loop.example/s02772/impl.errNoKeys", laid_loop_example_s02772_impl_errNoKeys), ("loop.example/s02772/impl.errNoLeaves", laid_loop_example_s02772_impl_errNoLeaves), ("loop.example/s02772/impl.errUnknown", laid_loop_example_s02772_impl_errUnknown), ("loop.example/s02772/impl.errTwice", laid_loop_example_s02772_impl_errTwice), ("loop.example/s02772/impl.errReplica", laid_loop_example_s02772_impl_errReplica), ("loop.example/s02772/impl.errHello", laid_loop_example_s02772_impl_errHello), ("loop.example/s02772/impl.errNoRoom", laid_loop_example_s02772_impl_errNoRoom)] }
def FnSyncSaid : Prop := fnSyncRow.holds Tryz.pinned (OpenSpec.ofChange fnSyncSpec)

/-- ITS FALSE NEIGHBOUR: 'it returns false'. Refute it at one input. -/
def fnSyncWrong : ChangeSpec := { name := "fnSync", vars := ["loop.example/s02772/impl.errReplica", "loop.example/s02772/impl.errKind", "loop.example/s02772/impl.errHello", "loop.example/s02772/impl.errTooLong", "loop.example/s02772/impl.errBehind", "loop.example/s02772/impl.errLimit", "loop.example/s02772/impl.errEnds", "loop.example/s02772/impl.errTenth", "loop.example/s02772/impl.errShorter", "loop.example/s02772/impl.errOrder", "loop.example/s02772/impl.errNoRuns", "loop.example/s02772/impl.errNoKeys", "loop.example/s02772/impl.errDeep", "loop.example/s02772/impl.errNoName", "loop.example/s02772/impl.errNoLeaves", "loop.example/s02772/impl.errUnknown", "loop.example/s02772/impl.errTwice", "loop.example/s02772/impl.errNoRoom"], fn := fun _ => fun
  | [d, g1, g2, g3, g4, g5, g6, g7, g8, g9, g10, g11, g12, g13, g14, g15, g16, g17, g18] => { results := [.lit (.bool false)], args := [d], vars := [g1, g2, g3, g4, g5, g6, g7, g8, g9, g10, g11, g12, g13, g14, g15, g16, g17, g18] }
  | _ => none }
def FnSyncWrongFalsely : Prop := fnSyncRow.holds Tryz.pinned (OpenSpec.ofChange fnSyncWrong)

/- THE SECOND FORM. 'bulk': how many values and letters a reading holds, each counted each time it is reached (what is shared counts as often as it is met; a slice's spare places count too). A statement '..UptoSaid' is the law's where the arguments, and the package variables that the reading takes, are together of bulk at most 1048576: NARROWER than '..Said'. Prove '..Said' where nothing that the law and all that it calls make is longer than what came in: it says more and counts as full. Else prove '..UptoSaid'. A law counts once. -/
mutual
def uptoBulk {H : Type} : DataW H → Nat
  | .lit (.string bytes) => bytes.length + 1
  | .lit _ => 1
  | .nil => 1
  | .ptr d => uptoBulk d + 1
  | .slice elems spare => uptoBulkAll elems + uptoBulkAll spare + 1
  | .agg parts => uptoBulkAll parts + 1
  | .iface _ d => uptoBulk d + 1
  | .map entries => uptoBulkEntries entries + 1
  | .held _ => 1
def uptoBulkAll {H : Type} : List (DataW H) → Nat
  | [] => 0
  | d :: r => uptoBulk d + uptoBulkAll r
def uptoBulkEntries {H : Type} : List (Lit × DataW H) → Nat
  | [] => 0
  | x :: r => uptoBulkEntry x + uptoBulkEntries r
def uptoBulkEntry {H : Type} : Lit × DataW H → Nat
  | (.string bytes, d) => bytes.length + uptoBulk d + 1
  | (_, d) => uptoBulk d + 1
 end
def uptoSmall : (H : Type) → List (DataW H) → Bool := fun _ ds => decide (uptoBulkAll ds ≤ 1048576)
def OpenSpec.upto (s : _root_.Go.ChangeSpec) : _root_.Go.OpenSpec := { _root_.Go.OpenSpec.ofChange s with cond := some uptoSmall }

/-- 'laws.FnSync', WHERE WHAT IT READS IS OF BULK AT MOST 1048576: true; the input reads as it did. -/
def fnSyncUptoRow : OpenClaim := { program := "ytmlmkaiibamabaagreatdoor", sum := "c64ec8b3d5951adfb8d0a54a5fca6b9e965bdd5eb81795b64ca577ae41c51e53", func := "loop.example/s02772/laws.FnSync", spec := "fnSync", inPlace := ["internal/reflectlite.ValueOf", "(internal/reflectlite.Value).Type", "(internal/reflectlite.Value).IsNil", "internal/reflectlite.TypeOf", "(internal/reflectlite.Value).Elem", "(internal/reflectlite.Value).Set"], unfollowed := true, recurses := true, named := ["loop.example/s02772/impl.errReplica", "loop.example/s02772/impl.errKind", "loop.example/s02772/impl.errHello", "loop.example/s02772/impl.errTooLong", "loop.example/s02772/impl.errBehind", "loop.example/s02772/impl.errLimit", "loop.example/s02772/impl.errEnds", "loop.example/s02772/impl.errTenth", "loop.example/s02772/impl.errShorter", "loop.example/s02772/impl.errOrder", "loop.example/s02772/impl.errNoRuns", "loop.example/s02772/impl.errNoKeys", "loop.example/s02772/impl.errDeep", "loop.example/s02772/impl.errNoName", "loop.example/s02772/impl.errNoLeaves", "loop.example/s02772/impl.errUnknown", "loop.example/s02772/impl.errTwice", "loop.example/s02772/impl.errNoRoom", "errors.errorType"], ifaces := true, plainKeys := false, apart := false, laid := [("errors.errorType", laid_errors_errorType), ("loop.example/s02772/impl.errEnds", laid_loop_example_s02772_impl_errEnds), ("loop.example/s02772/impl.errTenth", laid_loop_example_s02772_impl_errTenth), ("loop.example/s02772/impl.errShorter", laid_loop_example_s02772_impl_errShorter), ("loop.example/s02772/impl.errTooLong", laid_loop_example_s02772_impl_errTooLong), ("loop.example/s02772/impl.errLimit", laid_loop_example_s02772_impl_errLimit), ("loop.example/s02772/impl.errOrder", laid_loop_example_s02772_impl_errOrder), ("loop.example/s02772/impl.errNoRuns", laid_loop_example_s02772_impl_errNoRuns), ("loop.example/s02772/impl.errBehind", laid_loop_example_s02772_impl_errBehind), ("loop.example/s02772/impl.errNoName", laid_loop_example_s02772_impl_errNoName), ("loop.example/s02772/impl.errKind", laid_loop_example_s02772_impl_errKind), ("loop.example/s02772/impl.errDeep", laid_loop_example_s02772_impl_errDeep), ("loop.example/s02772/impl.errNoKeys", laid_loop_example_s02772_impl_errNoKeys), ("loop.example/s02772/impl.errNoLeaves", laid_loop_example_s02772_impl_errNoLeaves), ("loop.example/s02772/impl.errUnknown", laid_loop_example_s02772_impl_errUnknown), ("loop.example/s02772/impl.errTwice", laid_loop_example_s02772_impl_errTwice), ("loop.example/s02772/impl.errReplica", laid_loop_example_s02772_impl_errReplica), ("loop.example/s02772/impl.errHello", laid_loop_example_s02772_impl_errHello), ("loop.example/s02772/impl.errNoRoom", laid_loop_example_s02772_impl_errNoRoom)], narrowed := true }
def FnSyncUptoSaid : Prop := fnSyncUptoRow.holds Tryz.pinned (OpenSpec.upto fnSyncSpec)

end Rows
end Go.Proofs.YtmlmkaiibamabaaGreatDoor
