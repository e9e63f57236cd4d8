import Derived.Test.YthkppnmnjboiaaaDoorFq
namespace Go.Proofs.YthkppnmnjboiaaaDoor
open Go.ChangeShapes Go.WideShapes Go.ChangeAt Go.RowKit
set_option linter.unusedVariables false
set_option linter.unusedSimpArgs false

structure FxR (w : World) (B : Nat) (v : Value) (l : List Fx) : Prop where
  row : w.ownsRow B 41 2 v l.length (fxCells l)
  pay : ∀ i, i < l.length → Own w B (gFx l i).2.1 (gFx l i).2.2
  far : ∀ i, i < l.length → ∀ b, (gFx l i).2.1.ownBlock = some b → v.ownBlock ≠ some b
  dis : ∀ i j, i < l.length → j < l.length → i ≠ j → ∀ b, (gFx l i).2.1.ownBlock = some b → (gFx l j).2.1.ownBlock ≠ some b

theorem fxCells_get : ∀ (l : List Fx) (i : Nat), i < l.length → (fxCells l)[i * 2]? = some (.int .i64 (gFx l i).1) ∧ (fxCells l)[i * 2 + 1]? = some (gFx l i).2.1 := by
  intro l
  induction l with
  | nil => intro i hi; simp at hi
  | cons a l ih =>
    intro i hi
    cases i with
    | zero => simp [fxCells, gFx]
    | succ i =>
      have := ih i (by simpa using hi)
      have e : fxCells (a :: l) = .int .i64 a.1 :: a.2.1 :: fxCells l := by simp [fxCells]
      rw [e, show (i + 1) * 2 = i * 2 + 1 + 1 from by omega]
      simpa [gFx] using this
theorem FxR.fxs {w : World} {B : Nat} {v : Value} {l : List Fx} (h : FxR w B v l) : ∃ a c, v = .slice a l.length c ∧ FxS w a l := by
  rcases h.row.2 with ⟨e, e0⟩ | ⟨g, cap, cur, e, hb, _⟩
  · exact ⟨none, 0, by rw [e, e0], .inl e0⟩
  · refine ⟨_, cap, e, .inr ⟨g, 0, rfl, (World.ownsRow.lt h.row g (by rw [e]; rfl)).2, fun i hi => ?_⟩⟩
    have h1 := h.row
    rw [e] at h1
    obtain ⟨pa, pc, e1, s1⟩ := (h.pay i hi).any
    rw [Nat.zero_add]
    refine ⟨?_, ?_, pa, pc, e1, s1⟩
    · rw [h1.cellAt _ (by omega)]; exact (fxCells_get l i hi).1
    · rw [h1.cellAt _ (by omega)]; exact (fxCells_get l i hi).2
theorem seg_keep {w w' : World} {pa : Option Addr} {n cap : Nat} {f : Nat → Int} (h : Seg w pa n f) (hs : w.heap.size ≤ w'.heap.size) (hk : ∀ b, (Value.slice pa n cap).ownBlock = some b → w'.heap[b]? = w.heap[b]?) : Seg w' pa n f := by
  rcases h with h | ⟨b, off, rfl, hb, hc⟩
  · exact .inl h
  · exact .inr ⟨b, off, rfl, Nat.lt_of_lt_of_le hb hs, fun i hi => (World.cell?_of_block (a := ⟨b, off + i, none⟩) (hk b rfl)).trans (hc i hi)⟩

end Go.Proofs.YthkppnmnjboiaaaDoor
