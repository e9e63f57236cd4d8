/-
  No cell of these rows narrows 'for every input' (looked for: loops, veiled, ifaces, maps, wideKeys, modest, calm, conditions, laid).
  DERIVED. THE GIVEN ROWS OF THIS SEAT. 4 by the template 'for every input the law returns true; each argument reads behind the call as it read before'; 0 by the template 'total and deterministic' (their statements: YtbimcammjohaoacTotals.lean).
  GIVEN WITH THE SEED: the statements are not yours to turn. If you find one false, say at which input.
  Laid BY PROGRAM, IN A SANDBOX (cutbox-rows.mjs): the forced cells as the released guide's own fill.sh prints them over the translation c45b1260d0b8d27a… (all of the seat's roots in one cut). By AI agents, Wed Nov 11 2026. No macro, syntax, notation, axiom, sorry.
-/
import Derived.Test.YtbimcammjohaoacChecked
import GoSem.Claim
import GoSem.ClaimJoined
import GoSem.ClaimMapViews
import Derived.JoinedTies
import Derived.KernelRfl
namespace Go.Proofs.Ytbimcammjohaoac
/- THE CELL 'sum', in the pinned program and in every row, IS THE sha256 OF THE DUMP (.gsa) THAT YtbimcammjohaoacProg.lean LOADS. Nothing in Lean hashes anything: it is a label: what it is worth is what the hold of that sum in a sandbox is worth. -/
noncomputable def Try.pinned : Pinned := { name := "ytbimcammjohaoac", sum := "c45b1260d0b8d27a8045cd142770a00f53506bf59109ccda6a40d9aad4937f2d", checked := Try.checked }
namespace Rows
def none {H : Type} : Left H := { results := [], args := [] }

/-- 'laws.FnExactPutFrame': WHATEVER THE INPUT: true; the input reads as it did. -/
def fnExactPutFrameSpec : ChangeSpec := { name := "fnExactPutFrame", fn := fun _ => fun
  | [d] => { results := [.lit (.bool true)], args := [d] }
  | _ => none }
def fnExactPutFrameRow : OpenClaim := { program := "ytbimcammjohaoac", sum := "c45b1260d0b8d27a8045cd142770a00f53506bf59109ccda6a40d9aad4937f2d", func := "loop.example/s02772/laws.FnExactPutFrame", spec := "fnExactPutFrame", recurses := true, apart := false }
def FnExactPutFrameSaid : Prop := fnExactPutFrameRow.holds Try.pinned (OpenSpec.ofChange fnExactPutFrameSpec)

/-- ITS FALSE NEIGHBOUR: 'it returns false'. Refute it at one input. -/
def fnExactPutFrameWrong : ChangeSpec := { name := "fnExactPutFrame", fn := fun _ => fun
  | [d] => { results := [.lit (.bool false)], args := [d] }
  | _ => none }
def FnExactPutFrameWrongFalsely : Prop := fnExactPutFrameRow.holds Try.pinned (OpenSpec.ofChange fnExactPutFrameWrong)

/-- 'laws.FnExactUnion': WHATEVER THE INPUT: true; the input reads as it did. -/
def fnExactUnionSpec : ChangeSpec := { name := "fnExactUnion", fn := fun _ => fun
  | [d1, d2] => { results := [.lit (.bool true)], args := [d1, d2] }
  | _ => none }
def fnExactUnionRow : OpenClaim := { program := "ytbimcammjohaoac", sum := "c45b1260d0b8d27a8045cd142770a00f53506bf59109ccda6a40d9aad4937f2d", func := "loop.example/s02772/laws.FnExactUnion", spec := "fnExactUnion", unfollowed := true, recurses := true, apart := false }
def FnExactUnionSaid : Prop := fnExactUnionRow.holds Try.pinned (OpenSpec.ofChange fnExactUnionSpec)

/-- ITS FALSE NEIGHBOUR: 'it returns false'. Refute it at one input. -/
def fnExactUnionWrong : ChangeSpec := { name := "fnExactUnion", fn := fun _ => fun
  | [d1, d2] => { results := [.lit (.bool false)], args := [d1, d2] }
  | _ => none }
def FnExactUnionWrongFalsely : Prop := fnExactUnionRow.holds Try.pinned (OpenSpec.ofChange fnExactUnionWrong)

/-- 'laws.FnExactAddDot': WHATEVER THE INPUT: true; the input reads as it did. -/
def fnExactAddDotSpec : ChangeSpec := { name := "fnExactAddDot", fn := fun _ => fun
  | [d1, d2] => { results := [.lit (.bool true)], args := [d1, d2] }
  | _ => none }
def fnExactAddDotRow : OpenClaim := { program := "ytbimcammjohaoac", sum := "c45b1260d0b8d27a8045cd142770a00f53506bf59109ccda6a40d9aad4937f2d", func := "loop.example/s02772/laws.FnExactAddDot", spec := "fnExactAddDot", unfollowed := true, recurses := true, apart := false }
def FnExactAddDotSaid : Prop := fnExactAddDotRow.holds Try.pinned (OpenSpec.ofChange fnExactAddDotSpec)

/-- ITS FALSE NEIGHBOUR: 'it returns false'. Refute it at one input. -/
def fnExactAddDotWrong : ChangeSpec := { name := "fnExactAddDot", fn := fun _ => fun
  | [d1, d2] => { results := [.lit (.bool false)], args := [d1, d2] }
  | _ => none }
def FnExactAddDotWrongFalsely : Prop := fnExactAddDotRow.holds Try.pinned (OpenSpec.ofChange fnExactAddDotWrong)

/-- 'laws.FnExactPutContext': WHATEVER THE INPUT: true; the input reads as it did. -/
def fnExactPutContextSpec : ChangeSpec := { name := "fnExactPutContext", fn := fun _ => fun
  | [d] => { results := [.lit (.bool true)], args := [d] }
  | _ => none }
def fnExactPutContextRow : OpenClaim := { program := "ytbimcammjohaoac", sum := "c45b1260d0b8d27a8045cd142770a00f53506bf59109ccda6a40d9aad4937f2d", func := "loop.example/s02772/laws.FnExactPutContext", spec := "fnExactPutContext", unfollowed := true, recurses := true, apart := false }
def FnExactPutContextSaid : Prop := fnExactPutContextRow.holds Try.pinned (OpenSpec.ofChange fnExactPutContextSpec)

/-- ITS FALSE NEIGHBOUR: 'it returns false'. Refute it at one input. -/
def fnExactPutContextWrong : ChangeSpec := { name := "fnExactPutContext", fn := fun _ => fun
  | [d] => { results := [.lit (.bool false)], args := [d] }
  | _ => none }
def FnExactPutContextWrongFalsely : Prop := fnExactPutContextRow.holds Try.pinned (OpenSpec.ofChange fnExactPutContextWrong)

/- THE SECOND FORM. 'bulk': how many values and letters a reading holds, each counted each time it is reached (what is shared counts as often as it is met; a slice's spare places count too). A statement '..UptoSaid' is the law's where the arguments, and the package variables that the reading takes, are together of bulk at most 1048576: NARROWER than '..Said'. Prove '..Said' where nothing that the law and all that it calls make is longer than what came in: it says more and counts as full. Else prove '..UptoSaid'. A law counts once. -/
mutual
def uptoBulk {H : Type} : DataW H → Nat
  | .lit (.string bytes) => bytes.length + 1
  | .lit _ => 1
  | .nil => 1
  | .ptr d => uptoBulk d + 1
  | .slice elems spare => uptoBulkAll elems + uptoBulkAll spare + 1
  | .agg parts => uptoBulkAll parts + 1
  | .iface _ d => uptoBulk d + 1
  | .map entries => uptoBulkEntries entries + 1
  | .held _ => 1
def uptoBulkAll {H : Type} : List (DataW H) → Nat
  | [] => 0
  | d :: r => uptoBulk d + uptoBulkAll r
def uptoBulkEntries {H : Type} : List (Lit × DataW H) → Nat
  | [] => 0
  | x :: r => uptoBulkEntry x + uptoBulkEntries r
def uptoBulkEntry {H : Type} : Lit × DataW H → Nat
  | (.string bytes, d) => bytes.length + uptoBulk d + 1
  | (_, d) => uptoBulk d + 1
 end
def uptoSmall : (H : Type) → List (DataW H) → Bool := fun _ ds => decide (uptoBulkAll ds ≤ 1048576)
def OpenSpec.upto (s : _root_.Go.ChangeSpec) : _root_.Go.OpenSpec := { _root_.Go.OpenSpec.ofChange s with cond := some uptoSmall }

/-- 'laws.FnExactPutFrame', WHERE WHAT IT READS IS OF BULK AT MOST 1048576: true; the input reads as it did. -/
def fnExactPutFrameUptoRow : OpenClaim := { program := "ytbimcammjohaoac", sum := "c45b1260d0b8d27a8045cd142770a00f53506bf59109ccda6a40d9aad4937f2d", func := "loop.example/s02772/laws.FnExactPutFrame", spec := "fnExactPutFrame", recurses := true, apart := false, narrowed := true }
def FnExactPutFrameUptoSaid : Prop := fnExactPutFrameUptoRow.holds Try.pinned (OpenSpec.upto fnExactPutFrameSpec)

/-- 'laws.FnExactUnion', WHERE WHAT IT READS IS OF BULK AT MOST 1048576: true; the input reads as it did. -/
def fnExactUnionUptoRow : OpenClaim := { program := "ytbimcammjohaoac", sum := "c45b1260d0b8d27a8045cd142770a00f53506bf59109ccda6a40d9aad4937f2d", func := "loop.example/s02772/laws.FnExactUnion", spec := "fnExactUnion", unfollowed := true, recurses := true, apart := false, narrowed := true }
def FnExactUnionUptoSaid : Prop := fnExactUnionUptoRow.holds Try.pinned (OpenSpec.upto fnExactUnionSpec)

/-- 'laws.FnExactAddDot', WHERE WHAT IT READS IS OF BULK AT MOST 1048576: true; the input reads as it did. -/
def fnExactAddDotUptoRow : OpenClaim := { program := "ytbimcammjohaoac", sum := "c45b1260d0b8d27a8045cd142770a00f53506bf59109ccda6a40d9aad4937f2d", func := "loop.example/s02772/laws.FnExactAddDot", spec := "fnExactAddDot", unfollowed := true, recurses := true, apart := false, narrowed := true }
def FnExactAddDotUptoSaid : Prop := fnExactAddDotUptoRow.holds Try.pinned (OpenSpec.upto fnExactAddDotSpec)

/-- 'laws.FnExactPutContext', WHERE WHAT IT READS IS OF BULK AT MOST 1048576: true; the input reads as it did. -/
def fnExactPutContextUptoRow : OpenClaim := { program := "ytbimcammjohaoac", sum := "c45b1260d0b8d27a8045cd142770a00f53506bf59109ccda6a40d9aad4937f2d", func := "loop.example/s02772/laws.FnExactPutContext", spec := "fnExactPutContext", unfollowed := true, recurses := true, apart := false, narrowed := true }
def FnExactPutContextUptoSaid : Prop := fnExactPutContextUptoRow.holds Try.pinned (OpenSpec.upto fnExactPutContextSpec)

end Rows
end Go.Proofs.Ytbimcammjohaoac
