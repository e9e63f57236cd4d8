/-
  No cell of these rows narrows 'for every input' (looked for: loops, veiled, ifaces, maps, wideKeys, modest, calm, conditions, laid).
  DERIVED. THE GIVEN ROWS OF THIS SEAT. 4 by the template 'for every input the law returns true; each argument reads behind the call as it read before'; 0 by the template 'total and deterministic' (their statements: YtbimcammjohaoabTotals.lean).
  GIVEN WITH THE SEED: the statements are not yours to turn. If you find one false, say at which input.
  Laid BY PROGRAM, IN A SANDBOX (cutbox-rows.mjs): the forced cells as the released guide's own fill.sh prints them over the translation ec37afec935f807f… (all of the seat's roots in one cut). By AI agents, Wed Nov 11 2026. No macro, syntax, notation, axiom, sorry.
-/
import Derived.Test.YtbimcammjohaoabChecked
import GoSem.Claim
import GoSem.ClaimJoined
import GoSem.ClaimMapViews
import Derived.JoinedTies
import Derived.KernelRfl
namespace Go.Proofs.Ytbimcammjohaoab
/- THE CELL 'sum', in the pinned program and in every row, IS THE sha256 OF THE DUMP (.gsa) THAT YtbimcammjohaoabProg.lean LOADS. Nothing in Lean hashes anything: it is a label: what it is worth is what the hold of that sum in a sandbox is worth. -/
noncomputable def Try.pinned : Pinned := { name := "ytbimcammjohaoab", sum := "ec37afec935f807fb6caf413b511180a347806246f05f526dd026e1748b40e72", checked := Try.checked }
namespace Rows
def none {H : Type} : Left H := { results := [], args := [] }

/-- 'laws.FnExactContextOk': WHATEVER THE INPUT: true; the input reads as it did. -/
def fnExactContextOkSpec : ChangeSpec := { name := "fnExactContextOk", fn := fun _ => fun
  | [d] => { results := [.lit (.bool true)], args := [d] }
  | _ => none }
def fnExactContextOkRow : OpenClaim := { program := "ytbimcammjohaoab", sum := "ec37afec935f807fb6caf413b511180a347806246f05f526dd026e1748b40e72", func := "loop.example/s02772/laws.FnExactContextOk", spec := "fnExactContextOk", apart := false }
def FnExactContextOkSaid : Prop := fnExactContextOkRow.holds Try.pinned (OpenSpec.ofChange fnExactContextOkSpec)

/-- ITS FALSE NEIGHBOUR: 'it returns false'. Refute it at one input. -/
def fnExactContextOkWrong : ChangeSpec := { name := "fnExactContextOk", fn := fun _ => fun
  | [d] => { results := [.lit (.bool false)], args := [d] }
  | _ => none }
def FnExactContextOkWrongFalsely : Prop := fnExactContextOkRow.holds Try.pinned (OpenSpec.ofChange fnExactContextOkWrong)

/-- 'laws.FnExactCovers': WHATEVER THE INPUT: true; the input reads as it did. -/
def fnExactCoversSpec : ChangeSpec := { name := "fnExactCovers", fn := fun _ => fun
  | [d1, d2] => { results := [.lit (.bool true)], args := [d1, d2] }
  | _ => none }
def fnExactCoversRow : OpenClaim := { program := "ytbimcammjohaoab", sum := "ec37afec935f807fb6caf413b511180a347806246f05f526dd026e1748b40e72", func := "loop.example/s02772/laws.FnExactCovers", spec := "fnExactCovers", unfollowed := true, recurses := true, apart := false }
def FnExactCoversSaid : Prop := fnExactCoversRow.holds Try.pinned (OpenSpec.ofChange fnExactCoversSpec)

/-- ITS FALSE NEIGHBOUR: 'it returns false'. Refute it at one input. -/
def fnExactCoversWrong : ChangeSpec := { name := "fnExactCovers", fn := fun _ => fun
  | [d1, d2] => { results := [.lit (.bool false)], args := [d1, d2] }
  | _ => none }
def FnExactCoversWrongFalsely : Prop := fnExactCoversRow.holds Try.pinned (OpenSpec.ofChange fnExactCoversWrong)

/-- 'laws.FnExactHasDot': WHATEVER THE INPUT: true; the input reads as it did. -/
def fnExactHasDotSpec : ChangeSpec := { name := "fnExactHasDot", fn := fun _ => fun
  | [d1, d2] => { results := [.lit (.bool true)], args := [d1, d2] }
  | _ => none }
def fnExactHasDotRow : OpenClaim := { program := "ytbimcammjohaoab", sum := "ec37afec935f807fb6caf413b511180a347806246f05f526dd026e1748b40e72", func := "loop.example/s02772/laws.FnExactHasDot", spec := "fnExactHasDot", unfollowed := true, recurses := true, apart := false }
def FnExactHasDotSaid : Prop := fnExactHasDotRow.holds Try.pinned (OpenSpec.ofChange fnExactHasDotSpec)

/-- ITS FALSE NEIGHBOUR: 'it returns false'. Refute it at one input. -/
def fnExactHasDotWrong : ChangeSpec := { name := "fnExactHasDot", fn := fun _ => fun
  | [d1, d2] => { results := [.lit (.bool false)], args := [d1, d2] }
  | _ => none }
def FnExactHasDotWrongFalsely : Prop := fnExactHasDotRow.holds Try.pinned (OpenSpec.ofChange fnExactHasDotWrong)

/-- 'laws.FnExactNextDot': WHATEVER THE INPUT: true; the input reads as it did. -/
def fnExactNextDotSpec : ChangeSpec := { name := "fnExactNextDot", fn := fun _ => fun
  | [d1, d2] => { results := [.lit (.bool true)], args := [d1, d2] }
  | _ => none }
def fnExactNextDotRow : OpenClaim := { program := "ytbimcammjohaoab", sum := "ec37afec935f807fb6caf413b511180a347806246f05f526dd026e1748b40e72", func := "loop.example/s02772/laws.FnExactNextDot", spec := "fnExactNextDot", apart := false }
def FnExactNextDotSaid : Prop := fnExactNextDotRow.holds Try.pinned (OpenSpec.ofChange fnExactNextDotSpec)

/-- ITS FALSE NEIGHBOUR: 'it returns false'. Refute it at one input. -/
def fnExactNextDotWrong : ChangeSpec := { name := "fnExactNextDot", fn := fun _ => fun
  | [d1, d2] => { results := [.lit (.bool false)], args := [d1, d2] }
  | _ => none }
def FnExactNextDotWrongFalsely : Prop := fnExactNextDotRow.holds Try.pinned (OpenSpec.ofChange fnExactNextDotWrong)

/- THE SECOND FORM. 'bulk': how many values and letters a reading holds, each counted each time it is reached (what is shared counts as often as it is met; a slice's spare places count too). A statement '..UptoSaid' is the law's where the arguments, and the package variables that the reading takes, are together of bulk at most 1048576: NARROWER than '..Said'. Prove '..Said' where nothing that the law and all that it calls make is longer than what came in: it says more and counts as full. Else prove '..UptoSaid'. A law counts once. -/
mutual
def uptoBulk {H : Type} : DataW H → Nat
  | .lit (.string bytes) => bytes.length + 1
  | .lit _ => 1
  | .nil => 1
  | .ptr d => uptoBulk d + 1
  | .slice elems spare => uptoBulkAll elems + uptoBulkAll spare + 1
  | .agg parts => uptoBulkAll parts + 1
  | .iface _ d => uptoBulk d + 1
  | .map entries => uptoBulkEntries entries + 1
  | .held _ => 1
def uptoBulkAll {H : Type} : List (DataW H) → Nat
  | [] => 0
  | d :: r => uptoBulk d + uptoBulkAll r
def uptoBulkEntries {H : Type} : List (Lit × DataW H) → Nat
  | [] => 0
  | x :: r => uptoBulkEntry x + uptoBulkEntries r
def uptoBulkEntry {H : Type} : Lit × DataW H → Nat
  | (.string bytes, d) => bytes.length + uptoBulk d + 1
  | (_, d) => uptoBulk d + 1
 end
def uptoSmall : (H : Type) → List (DataW H) → Bool := fun _ ds => decide (uptoBulkAll ds ≤ 1048576)
def OpenSpec.upto (s : _root_.Go.ChangeSpec) : _root_.Go.OpenSpec := { _root_.Go.OpenSpec.ofChange s with cond := some uptoSmall }

/-- 'laws.FnExactContextOk', WHERE WHAT IT READS IS OF BULK AT MOST 1048576: true; the input reads as it did. -/
def fnExactContextOkUptoRow : OpenClaim := { program := "ytbimcammjohaoab", sum := "ec37afec935f807fb6caf413b511180a347806246f05f526dd026e1748b40e72", func := "loop.example/s02772/laws.FnExactContextOk", spec := "fnExactContextOk", apart := false, narrowed := true }
def FnExactContextOkUptoSaid : Prop := fnExactContextOkUptoRow.holds Try.pinned (OpenSpec.upto fnExactContextOkSpec)

/-- 'laws.FnExactCovers', WHERE WHAT IT READS IS OF BULK AT MOST 1048576: true; the input reads as it did. -/
def fnExactCoversUptoRow : OpenClaim := { program := "ytbimcammjohaoab", sum := "ec37afec935f807fb6caf413b511180a347806246f05f526dd026e1748b40e72", func := "loop.example/s02772/laws.FnExactCovers", spec := "fnExactCovers", unfollowed := true, recurses := true, apart := false, narrowed := true }
def FnExactCoversUptoSaid : Prop := fnExactCoversUptoRow.holds Try.pinned (OpenSpec.upto fnExactCoversSpec)

/-- 'laws.FnExactHasDot', WHERE WHAT IT READS IS OF BULK AT MOST 1048576: true; the input reads as it did. -/
def fnExactHasDotUptoRow : OpenClaim := { program := "ytbimcammjohaoab", sum := "ec37afec935f807fb6caf413b511180a347806246f05f526dd026e1748b40e72", func := "loop.example/s02772/laws.FnExactHasDot", spec := "fnExactHasDot", unfollowed := true, recurses := true, apart := false, narrowed := true }
def FnExactHasDotUptoSaid : Prop := fnExactHasDotUptoRow.holds Try.pinned (OpenSpec.upto fnExactHasDotSpec)

/-- 'laws.FnExactNextDot', WHERE WHAT IT READS IS OF BULK AT MOST 1048576: true; the input reads as it did. -/
def fnExactNextDotUptoRow : OpenClaim := { program := "ytbimcammjohaoab", sum := "ec37afec935f807fb6caf413b511180a347806246f05f526dd026e1748b40e72", func := "loop.example/s02772/laws.FnExactNextDot", spec := "fnExactNextDot", apart := false, narrowed := true }
def FnExactNextDotUptoSaid : Prop := fnExactNextDotUptoRow.holds Try.pinned (OpenSpec.upto fnExactNextDotSpec)

end Rows
end Go.Proofs.Ytbimcammjohaoab
