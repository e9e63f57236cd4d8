import Derived.Test.YthkppnmnjboiaaaDoorFd
import Derived.Test.YthkppnmnjboiaaaDoorOb
namespace Go.Proofs.YthkppnmnjboiaaaDoor
open Go.ChangeShapes Go.WideShapes Go.ChangeAt Go.RowKit
set_option linter.unusedVariables false
set_option linter.unusedSimpArgs false

abbrev Fx := Int × Value × List Int
def gFx (l : List Fx) (i : Nat) : Fx := l.getD i (0, .slice none 0 0, [])
def fxCells (l : List Fx) : List Value := l.flatMap fun x => [.int .i64 x.1, x.2.1]
def prFx (x : Fx) : Int × List Int := (x.1, x.2.2)

def FxS (w : World) (a : Option Addr) (l : List Fx) : Prop :=
  l.length = 0 ∨ ∃ g off, a = some ⟨g, off, none⟩ ∧ g < w.heap.size ∧ ∀ i, i < l.length → w.cell? ⟨g, off + i * 2, none⟩ = some (.int .i64 (gFx l i).1) ∧ w.cell? ⟨g, off + i * 2 + 1, none⟩ = some (gFx l i).2.1 ∧ ∃ pa cap, (gFx l i).2.1 = .slice pa (gFx l i).2.2.length cap ∧ Seg w pa (gFx l i).2.2.length (gz (gFx l i).2.2)
theorem FxS.below {w w1 : World} {a : Option Addr} {l : List Fx} (h : FxS w a l) (hb : Below w.heap.size w w1) : FxS w1 a l := by
  refine h.imp id ?_
  rintro ⟨g, o, e, hg, hc⟩
  refine ⟨g, o, e, Nat.lt_of_lt_of_le hg hb.size, fun j hj => ?_⟩
  obtain ⟨h1, h2, pa, cap, h3, h4⟩ := hc j hj
  exact ⟨(hb.cell (p := ⟨g, _, none⟩) hg).trans h1, (hb.cell (p := ⟨g, _, none⟩) hg).trans h2, pa, cap, h3, h4.below hb⟩
theorem gFx_pr {l l' : List Fx} (h : l.map prFx = l'.map prFx) {i : Nat} (hi : i < l.length) : (gFx l i).1 = (gFx l' i).1 ∧ (gFx l i).2.2 = (gFx l' i).2.2 := by
  have hl : l.length = l'.length := by have := congrArg List.length h; simpa using this
  have h2 := congrArg (fun z => z.getD i (0, [])) h
  simp [List.getD, hi, hl ▸ hi, prFx] at h2
  simp [gFx, List.getD, hi, hl ▸ hi]
  exact h2

end Go.Proofs.YthkppnmnjboiaaaDoor
