/-
  No cell of these rows narrows 'for every input' (looked for: loops, veiled, ifaces, maps, wideKeys, modest, calm, conditions, laid).
  DERIVED. THE GIVEN ROWS OF THIS SEAT. 3 by the template 'for every input the law returns true; each argument reads behind the call as it read before'; 0 by the template 'total and deterministic' (their statements: YthilohfaogiioaaGreatTotals.lean).
  GIVEN WITH THE SEED: the statements are not yours to turn. If you find one false, say at which input.
  Laid BY PROGRAM, IN A SANDBOX (cutbox-rows.mjs): the forced cells as the released guide's own fill.sh prints them over the translation 8f9193ba2a9ac91c… (all of the seat's roots in one cut). By AI agents, Wed Nov 11 2026. No macro, syntax, notation, axiom, sorry.
-/
import Derived.Test.YthilohfaogiioaaGreatChecked
import GoSem.Claim
import GoSem.ClaimJoined
import GoSem.ClaimMapViews
import Derived.JoinedTies
import Derived.KernelRfl
namespace Go.Proofs.YthilohfaogiioaaGreat
/- THE CELL 'sum', in the pinned program and in every row, IS THE sha256 OF THE DUMP (.gsa) THAT YthilohfaogiioaaGreatProg.lean LOADS. Nothing in Lean hashes anything: it is a label: what it is worth is what the hold of that sum in a sandbox is worth. -/
noncomputable def Tryz.pinned : Pinned := { name := "ythilohfaogiioaagreat", sum := "8f9193ba2a9ac91cfee9422ed0356e40620e98c0e2dde00f9e6488603371e2b8", checked := Tryz.checked }
namespace Rows
def none {H : Type} : Left H := { results := [], args := [] }

/-- 'laws.FnExactReplicaOk': WHATEVER THE INPUT: true; the input reads as it did. -/
def fnExactReplicaOkSpec : ChangeSpec := { name := "fnExactReplicaOk", fn := fun _ => fun
  | [d] => { results := [.lit (.bool true)], args := [d] }
  | _ => none }
def fnExactReplicaOkRow : OpenClaim := { program := "ythilohfaogiioaagreat", sum := "8f9193ba2a9ac91cfee9422ed0356e40620e98c0e2dde00f9e6488603371e2b8", func := "loop.example/s02772/laws.FnExactReplicaOk", spec := "fnExactReplicaOk", unfollowed := true, recurses := true, plainKeys := false, apart := false }
def FnExactReplicaOkSaid : Prop := fnExactReplicaOkRow.holds Tryz.pinned (OpenSpec.ofChange fnExactReplicaOkSpec)

/-- ITS FALSE NEIGHBOUR: 'it returns false'. Refute it at one input. -/
def fnExactReplicaOkWrong : ChangeSpec := { name := "fnExactReplicaOk", fn := fun _ => fun
  | [d] => { results := [.lit (.bool false)], args := [d] }
  | _ => none }
def FnExactReplicaOkWrongFalsely : Prop := fnExactReplicaOkRow.holds Tryz.pinned (OpenSpec.ofChange fnExactReplicaOkWrong)

/-- 'laws.FnExactWhole': WHATEVER THE INPUT: true; the input reads as it did. -/
def fnExactWholeSpec : ChangeSpec := { name := "fnExactWhole", fn := fun _ => fun
  | [d] => { results := [.lit (.bool true)], args := [d] }
  | _ => none }
def fnExactWholeRow : OpenClaim := { program := "ythilohfaogiioaagreat", sum := "8f9193ba2a9ac91cfee9422ed0356e40620e98c0e2dde00f9e6488603371e2b8", func := "loop.example/s02772/laws.FnExactWhole", spec := "fnExactWhole", unfollowed := true, recurses := true, plainKeys := false, apart := false }
def FnExactWholeSaid : Prop := fnExactWholeRow.holds Tryz.pinned (OpenSpec.ofChange fnExactWholeSpec)

/-- ITS FALSE NEIGHBOUR: 'it returns false'. Refute it at one input. -/
def fnExactWholeWrong : ChangeSpec := { name := "fnExactWhole", fn := fun _ => fun
  | [d] => { results := [.lit (.bool false)], args := [d] }
  | _ => none }
def FnExactWholeWrongFalsely : Prop := fnExactWholeRow.holds Tryz.pinned (OpenSpec.ofChange fnExactWholeWrong)

/-- 'laws.FnExactHello': WHATEVER THE INPUT: true; the input reads as it did. -/
def fnExactHelloSpec : ChangeSpec := { name := "fnExactHello", fn := fun _ => fun
  | [d] => { results := [.lit (.bool true)], args := [d] }
  | _ => none }
def fnExactHelloRow : OpenClaim := { program := "ythilohfaogiioaagreat", sum := "8f9193ba2a9ac91cfee9422ed0356e40620e98c0e2dde00f9e6488603371e2b8", func := "loop.example/s02772/laws.FnExactHello", spec := "fnExactHello", unfollowed := true, recurses := true, plainKeys := false, apart := false }
def FnExactHelloSaid : Prop := fnExactHelloRow.holds Tryz.pinned (OpenSpec.ofChange fnExactHelloSpec)

/-- ITS FALSE NEIGHBOUR: 'it returns false'. Refute it at one input. -/
def fnExactHelloWrong : ChangeSpec := { name := "fnExactHello", fn := fun _ => fun
  | [d] => { results := [.lit (.bool false)], args := [d] }
  | _ => none }
def FnExactHelloWrongFalsely : Prop := fnExactHelloRow.holds Tryz.pinned (OpenSpec.ofChange fnExactHelloWrong)

/- THE SECOND FORM. 'bulk': how many values and letters a reading holds, each counted each time it is reached (what is shared counts as often as it is met; a slice's spare places count too). A statement '..UptoSaid' is the law's where the arguments, and the package variables that the reading takes, are together of bulk at most 1048576: NARROWER than '..Said'. Prove '..Said' where nothing that the law and all that it calls make is longer than what came in: it says more and counts as full. Else prove '..UptoSaid'. A law counts once. -/
mutual
def uptoBulk {H : Type} : DataW H → Nat
  | .lit (.string bytes) => bytes.length + 1
  | .lit _ => 1
  | .nil => 1
  | .ptr d => uptoBulk d + 1
  | .slice elems spare => uptoBulkAll elems + uptoBulkAll spare + 1
  | .agg parts => uptoBulkAll parts + 1
  | .iface _ d => uptoBulk d + 1
  | .map entries => uptoBulkEntries entries + 1
  | .held _ => 1
def uptoBulkAll {H : Type} : List (DataW H) → Nat
  | [] => 0
  | d :: r => uptoBulk d + uptoBulkAll r
def uptoBulkEntries {H : Type} : List (Lit × DataW H) → Nat
  | [] => 0
  | x :: r => uptoBulkEntry x + uptoBulkEntries r
def uptoBulkEntry {H : Type} : Lit × DataW H → Nat
  | (.string bytes, d) => bytes.length + uptoBulk d + 1
  | (_, d) => uptoBulk d + 1
 end
def uptoSmall : (H : Type) → List (DataW H) → Bool := fun _ ds => decide (uptoBulkAll ds ≤ 1048576)
def OpenSpec.upto (s : _root_.Go.ChangeSpec) : _root_.Go.OpenSpec := { _root_.Go.OpenSpec.ofChange s with cond := some uptoSmall }

/-- 'laws.FnExactReplicaOk', WHERE WHAT IT READS IS OF BULK AT MOST 1048576: true; the input reads as it did. -/
def fnExactReplicaOkUptoRow : OpenClaim := { program := "ythilohfaogiioaagreat", sum := "8f9193ba2a9ac91cfee9422ed0356e40620e98c0e2dde00f9e6488603371e2b8", func := "loop.example/s02772/laws.FnExactReplicaOk", spec := "fnExactReplicaOk", unfollowed := true, recurses := true, plainKeys := false, apart := false, narrowed := true }
def FnExactReplicaOkUptoSaid : Prop := fnExactReplicaOkUptoRow.holds Tryz.pinned (OpenSpec.upto fnExactReplicaOkSpec)

/-- 'laws.FnExactWhole', WHERE WHAT IT READS IS OF BULK AT MOST 1048576: true; the input reads as it did. -/
def fnExactWholeUptoRow : OpenClaim := { program := "ythilohfaogiioaagreat", sum := "8f9193ba2a9ac91cfee9422ed0356e40620e98c0e2dde00f9e6488603371e2b8", func := "loop.example/s02772/laws.FnExactWhole", spec := "fnExactWhole", unfollowed := true, recurses := true, plainKeys := false, apart := false, narrowed := true }
def FnExactWholeUptoSaid : Prop := fnExactWholeUptoRow.holds Tryz.pinned (OpenSpec.upto fnExactWholeSpec)

/-- 'laws.FnExactHello', WHERE WHAT IT READS IS OF BULK AT MOST 1048576: true; the input reads as it did. -/
def fnExactHelloUptoRow : OpenClaim := { program := "ythilohfaogiioaagreat", sum := "8f9193ba2a9ac91cfee9422ed0356e40620e98c0e2dde00f9e6488603371e2b8", func := "loop.example/s02772/laws.FnExactHello", spec := "fnExactHello", unfollowed := true, recurses := true, plainKeys := false, apart := false, narrowed := true }
def FnExactHelloUptoSaid : Prop := fnExactHelloUptoRow.holds Tryz.pinned (OpenSpec.upto fnExactHelloSpec)

end Rows
end Go.Proofs.YthilohfaogiioaaGreat
