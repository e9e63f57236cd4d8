import Derived.Test.YtbimcammjohaoadGreatDoorMg20
import Derived.Test.YtbimcammjohaoadGreatDoorMg03
namespace Go.Proofs.YtbimcammjohaoadGreatDoor
open Go.ChangeShapes Go.WideShapes Go.ChangeAt Go.RowKit
set_option linter.unusedVariables false
set_option linter.unusedSimpArgs false

end Go.Proofs.YtbimcammjohaoadGreatDoor

namespace Go.Proofs.YtbimcammjohaoadGreatDoor
open Go.ChangeShapes Go.WideShapes Go.ChangeAt Go.RowKit Go.Maps Go.Sort
set_option linter.unusedVariables false
set_option linter.unusedSimpArgs false

def gR (l : List Rn) (i : Nat) : Rn := l.getD i (0, 0, 0)

def FS (w : World) (a : Option Addr) (l : List Rn) : Prop :=
  l.length = 0 ∨ ∃ g off, a = some ⟨g, off, none⟩ ∧ g < w.heap.size ∧ ∀ i, i < l.length → w.cell? ⟨g, off + i * 3, none⟩ = some (.int .i64 (gR l i).1) ∧ w.cell? ⟨g, off + i * 3 + 1, none⟩ = some (.int .i64 (gR l i).2.1) ∧ w.cell? ⟨g, off + i * 3 + 2, none⟩ = some (.int .i64 (gR l i).2.2)
theorem FS.below {w w1 : World} {a : Option Addr} {l : List Rn} (h : FS w a l) (hb : Below w.heap.size w w1) : FS w1 a l := by
  refine h.imp id ?_
  rintro ⟨g, o, e, hg, hc⟩
  exact ⟨g, o, e, Nat.lt_of_lt_of_le hg hb.size, fun j hj => ⟨(hb.cell (p := ⟨g, _, none⟩) hg).trans (hc j hj).1, (hb.cell (p := ⟨g, _, none⟩) hg).trans (hc j hj).2.1, (hb.cell (p := ⟨g, _, none⟩) hg).trans (hc j hj).2.2⟩⟩

theorem fr_cells {w : World} {B n cap g : Nat} {l : List Rn} (h : w.ownsRow B 41 3 (.slice (some ⟨g, 0, none⟩) n cap) n (fCells l)) (hl : l.length = n) :
    ∀ i, i < n → w.cell? ⟨g, i * 3, none⟩ = some (.int .i64 (gR l i).1) ∧ w.cell? ⟨g, i * 3 + 1, none⟩ = some (.int .i64 (gR l i).2.1) ∧ w.cell? ⟨g, i * 3 + 2, none⟩ = some (.int .i64 (gR l i).2.2) := by
  intro i hi
  have key : ∀ (l : List Rn) (i : Nat), i < l.length → (fCells l)[i * 3]? = some (.int .i64 (gR l i).1) ∧ (fCells l)[i * 3 + 1]? = some (.int .i64 (gR l i).2.1) ∧ (fCells l)[i * 3 + 2]? = some (.int .i64 (gR l i).2.2) := by
    intro l
    induction l with
    | nil => intro i hi; simp at hi
    | cons a l ih =>
      intro i hi
      cases i with
      | zero => simp [fCells, gR]
      | succ i =>
        have := ih i (by simpa using hi)
        have e : fCells (a :: l) = .int .i64 a.1 :: .int .i64 a.2.1 :: .int .i64 a.2.2 :: fCells l := by simp [fCells]
        rw [e, show (i + 1) * 3 = i * 3 + 1 + 1 + 1 from by omega]
        simpa [gR] using this
  rw [h.cellAt _ (by omega), h.cellAt _ (by omega), h.cellAt _ (by omega)]
  exact key l i (by omega)
theorem FR.fs {w : World} {B : Nat} {v : Value} {l : List Rn} (h : FR w B v l) : ∃ a c, v = .slice a l.length c ∧ FS w a l ∧ l.length ≤ c ∧ c ≤ 9223372036854775807 := by
  rcases h.2 with ⟨e, e0⟩ | ⟨g, cap, cur, e, hb, _, hnc, hcm, _⟩
  · exact ⟨none, 0, by rw [e, e0], .inl e0, by omega, by omega⟩
  · refine ⟨_, cap, e, .inr ⟨g, 0, rfl, (World.ownsRow.lt h g (by rw [e]; rfl)).2, fun i hi => ?_⟩, hnc, by unfold maxLen at hcm; omega⟩
    have h1 : w.ownsRow B 41 3 v l.length (fCells l) := h
    rw [e] at h1
    rw [Nat.zero_add]
    exact fr_cells h1 rfl i hi
theorem fCells_len (l : List Rn) : (fCells l).length = l.length * 3 := by
  induction l with
  | nil => rfl
  | cons a l ih => simp [fCells] at *; omega

theorem FS.rseg {w : World} {a : Option Addr} {l : List Rn} (h : FS w a l) : RSeg w a l.length (fun i => (gR l i).1) (fun i => (gR l i).2.1) (fun i => (gR l i).2.2) := h

theorem grownR {w w' : World} {B g : Nat} (hb : Below B w w') (hs : w.heap.size ≤ w'.heap.size) (h : ∀ b, b < w.heap.size → b ≠ g → w'.heap[b]? = w.heap[b]?) : w.grownBy w' (some g) :=
  ⟨hb.os, hb.tape, hb.output, hs, fun k hk hne => h k hk (fun e => hne (by rw [e]))⟩

theorem FR.gr {w w' : World} {B : Nat} {v : Value} {l : List Rn} {row : Option Nat} (h : FR w B v l) (hg : w.grownBy w' row) (hne : ∀ g, v.ownBlock = Option.some g → Option.some g ≠ row) : FR w' B v l :=
  World.ownsRow.kept h hg (by
    cases e : v.ownBlock with
    | none => exact .inl rfl
    | some g => exact .inr (hne g e))
theorem FR.below {w w' : World} {B : Nat} {v : Value} {l : List Rn} (h : FR w B v l) (hb : Below w.heap.size w w') : FR w' B v l :=
  h.gr (row := none) ⟨hb.os, hb.tape, hb.output, hb.size, fun k hk _ => hb.block k hk⟩ (by simp)
end Go.Proofs.YtbimcammjohaoadGreatDoor
