import Derived.Test.YtkhicohhahaahaaSpn
namespace Go.Proofs.Ytkhicohhahaahaa
open Go.ChangeShapes Go.WideShapes Go.ChangeAt Go.RowKit Go.Maps
set_option linter.unusedVariables false
set_option linter.unusedSimpArgs false

theorem last_cell {w : World} {B g n cap : Nat} {l : List (Int × Int)} (h : w.ownsRow B 125 2 (.slice (some ⟨g, 0, none⟩) n cap) n (spanCells l)) (hl : l.length = n) (h0 : 0 < n) :
    w.cell? ⟨g, (n - 1) * 2 + 1, none⟩ = some (.int .i64 (lastTo l)) := by
  rw [h.cellAt _ (by omega)]
  obtain ⟨l', p, rfl⟩ : ∃ l' p, l = l' ++ [p] := ⟨l.dropLast, l.getLast (by intro e; rw [e] at hl; simp at hl; omega), (List.dropLast_concat_getLast _).symm⟩
  have hlen : (spanCells l').length = l'.length * 2 := by
    clear h hl
    induction l' with
    | nil => rfl
    | cons a l ih => simp [spanCells] at *; omega
  simp at hl
  rw [lastTo_snoc, spanCells_append, List.getElem?_append_right (by rw [hlen]; omega), hlen, show (n - 1) * 2 + 1 - l'.length * 2 = 1 from by omega]
  rfl

end Go.Proofs.Ytkhicohhahaahaa
