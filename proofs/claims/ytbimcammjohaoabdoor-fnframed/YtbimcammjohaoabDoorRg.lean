import Derived.Test.YtbimcammjohaoabDoorWh
import Derived.Deep.RegionHeld3
import Derived.OwnWalk
namespace Go.Proofs.YtbimcammjohaoabDoor
open Go.ChangeShapes Go.WideShapes Go.ChangeAt Go.RowKit
set_option linter.unusedVariables false
set_option linter.unusedSimpArgs false

theorem keepS {wr w1 w2 : World} (h1 : Below wr.heap.size wr w1) (b2 : Below w1.heap.size w1 w2) : Below wr.heap.size wr w2 := h1.trans (b2.mono h1.size)

theorem take1 {P : Program} {ops : Array Oper} {Q : Exit → Act → World → Prop} {md : Region.Mode} {S : World → Prop} {i : Nat} {d : Option Tmp} {v : Value} {fuel : Nat} {listed : Array Bool} {a : Act} {w : World}
    (hd : ops[i]?.map (fun o => o.dst) = some d) (hs : Region.noSelect ops = true) (hf : Region.free md ops listed i = true) (hr : (Region.ready md ops listed).contains i = true)
    (hQ : ∀ c a w, Q (.panic c) (a.put d v) w → Q (.panic c) a w) (hy : ∀ o, ops[i]? = some o → YieldsIf P ops S o v a) (hS : S w)
    (h : wpAnyH P md ops Q S fuel (listed.setIfInBounds i true) (a.put d v) w) : wpAnyH P md ops Q S (fuel + 1) listed a w := by
  obtain ⟨o, ho, rfl⟩ := Option.map_eq_some_iff.1 hd
  exact wpAnyH_take ho hs hf hr hQ (hy o ho) hS h

theorem call1 {P : Program} {ops : Array Oper} {Q : Exit → Act → World → Prop} {md : Region.Mode} {S : World → Prop} {i : Nat} {d : Option Tmp} {fuel : Nat} {listed : Array Bool} {a : Act} {w : World}
    (hd : ops[i]?.map (fun o => o.dst) = some d) (hr : Region.ready md ops listed = [i])
    (h : ∀ o, ops[i]? = some o → o.dst = d → ∀ K' : Act → World → Prop, Shut (∀ a w, S w → (S w → wpAnyH P md ops Q S fuel (listed.setIfInBounds i true) a w) → K' a w) → if Region.wanted o (yielded ops a.tmps) = true then Oper.wp P o a w K' Q else K' (a.put o.dst undef) w) :
    wpAnyH P md ops Q S (fuel + 1) listed a w := by
  obtain ⟨o, ho, hod⟩ := Option.map_eq_some_iff.1 hd
  exact wpAnyH_ready hr (by simp) (AllReadyH.cons ho (h o ho hod) AllReadyH.nil)

theorem wrapIn (x : Int) (h0 : -9223372036854775808 ≤ x) (h1 : x ≤ 9223372036854775807) : IntKind.i64.wrap x = x := by
  rw [IntKind.wrap_i64]; omega
theorem ready2 {P : Program} {ops : Array Oper} {Q : Exit → Act → World → Prop} {md : Region.Mode} {S : World → Prop} {i j : Nat} {d d' : Option Tmp} {fuel : Nat} {listed : Array Bool} {a : Act} {w : World}
    (hd : ops[i]?.map (fun o => o.dst) = some d) (hd' : ops[j]?.map (fun o => o.dst) = some d') (hr : Region.ready md ops listed = [i, j])
    (h : ∀ o, ops[i]? = some o → o.dst = d → ∀ K' : Act → World → Prop, Shut (∀ a w, S w → (S w → wpAnyH P md ops Q S fuel (listed.setIfInBounds i true) a w) → K' a w) → if Region.wanted o (yielded ops a.tmps) = true then Oper.wp P o a w K' Q else K' (a.put o.dst undef) w)
    (h' : ∀ o, ops[j]? = some o → o.dst = d' → ∀ K' : Act → World → Prop, Shut (∀ a w, S w → (S w → wpAnyH P md ops Q S fuel (listed.setIfInBounds j true) a w) → K' a w) → if Region.wanted o (yielded ops a.tmps) = true then Oper.wp P o a w K' Q else K' (a.put o.dst undef) w) :
    wpAnyH P md ops Q S (fuel + 1) listed a w := by
  obtain ⟨o, ho, hod⟩ := Option.map_eq_some_iff.1 hd
  obtain ⟨o', ho', hod'⟩ := Option.map_eq_some_iff.1 hd'
  exact wpAnyH_ready hr (by simp) (AllReadyH.cons ho (h o ho hod) (AllReadyH.cons ho' (h' o' ho' hod') AllReadyH.nil))
end Go.Proofs.YtbimcammjohaoabDoor
