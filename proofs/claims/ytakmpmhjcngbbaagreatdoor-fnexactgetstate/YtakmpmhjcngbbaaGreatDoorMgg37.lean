import Derived.Test.YtakmpmhjcngbbaaGreatDoorMgg36
import Derived.Test.YtakmpmhjcngbbaaGreatDoorMgg13
import Derived.Test.YtakmpmhjcngbbaaGreatDoorMgg22
import Derived.Test.YtakmpmhjcngbbaaGreatDoorMgg31
import Derived.Test.YtakmpmhjcngbbaaGreatDoorMgg05
set_option linter.unusedVariables false
set_option linter.unusedSimpArgs false
set_option maxRecDepth 100000
set_option maxHeartbeats 40000000
namespace Go.Proofs.YtakmpmhjcngbbaaGreatDoor
open Go.ChangeShapes Go.WideShapes Go.ChangeAt Go.RowKit Go.Deep
end Go.Proofs.YtakmpmhjcngbbaaGreatDoor
namespace Go.Proofs.YtakmpmhjcngbbaaGreatDoor
open Go.ChangeShapes Go.WideShapes Go.ChangeAt Go.RowKit Go.Maps Go.Sort
def gR (l : List Rn) (i : Nat) : Rn := l.getD i (0, 0, 0)
def FS (w : World) (a : Option Addr) (l : List Rn) : Prop :=
  l.length = 0 ∨ ∃ g off, a = some ⟨g, off, none⟩ ∧ g < w.heap.size ∧ ∀ i, i < l.length → w.cell? ⟨g, off + i * 3, none⟩ = some (.int .i64 (gR l i).1) ∧ w.cell? ⟨g, off + i * 3 + 1, none⟩ = some (.int .i64 (gR l i).2.1) ∧ w.cell? ⟨g, off + i * 3 + 2, none⟩ = some (.int .i64 (gR l i).2.2)
theorem fr_cells {w : World} {B n cap g : Nat} {l : List Rn} (h : w.ownsRow B 64 3 (.slice (some ⟨g, 0, none⟩) n cap) n (fCells l)) (hl : l.length = n) :
    ∀ i, i < n → w.cell? ⟨g, i * 3, none⟩ = some (.int .i64 (gR l i).1) ∧ w.cell? ⟨g, i * 3 + 1, none⟩ = some (.int .i64 (gR l i).2.1) ∧ w.cell? ⟨g, i * 3 + 2, none⟩ = some (.int .i64 (gR l i).2.2) := by
  intro i hi
  have key : ∀ (l : List Rn) (i : Nat), i < l.length → (fCells l)[i * 3]? = some (.int .i64 (gR l i).1) ∧ (fCells l)[i * 3 + 1]? = some (.int .i64 (gR l i).2.1) ∧ (fCells l)[i * 3 + 2]? = some (.int .i64 (gR l i).2.2) := by
    intro l
    induction l with
    | nil => intro i hi; simp at hi
    | cons a l ih =>
      intro i hi
      cases i with
      | zero => simp [fCells, gR]
      | succ i =>
        have := ih i (by simpa using hi)
        have e : fCells (a :: l) = .int .i64 a.1 :: .int .i64 a.2.1 :: .int .i64 a.2.2 :: fCells l := by simp [fCells]
        rw [e, show (i + 1) * 3 = i * 3 + 1 + 1 + 1 from by omega]
        simpa [gR] using this
  rw [h.cellAt _ (by omega), h.cellAt _ (by omega), h.cellAt _ (by omega)]
  exact key l i (by omega)
theorem FR.fs {w : World} {B : Nat} {v : Value} {l : List Rn} (h : FR w B v l) : ∃ a c, v = .slice a l.length c ∧ FS w a l ∧ l.length ≤ c ∧ c ≤ 9223372036854775807 := by
  rcases h.2 with ⟨e, e0⟩ | ⟨g, cap, cur, e, hb, _, hnc, hcm, _⟩
  · exact ⟨none, 0, by rw [e, e0], .inl e0, by omega, by omega⟩
  · refine ⟨_, cap, e, .inr ⟨g, 0, rfl, (World.ownsRow.lt h g (by rw [e]; rfl)).2, fun i hi => ?_⟩, hnc, by unfold maxLen at hcm; omega⟩
    have h1 : w.ownsRow B 64 3 v l.length (fCells l) := h
    rw [e] at h1
    rw [Nat.zero_add]
    exact fr_cells h1 rfl i hi
theorem FS.rseg {w : World} {a : Option Addr} {l : List Rn} (h : FS w a l) : RSeg w a l.length (fun i => (gR l i).1) (fun i => (gR l i).2.1) (fun i => (gR l i).2.2) := h
theorem FR.gr {w w' : World} {B : Nat} {v : Value} {l : List Rn} {row : Option Nat} (h : FR w B v l) (hg : w.grownBy w' row) (hne : ∀ g, v.ownBlock = Option.some g → Option.some g ≠ row) : FR w' B v l :=
  World.ownsRow.kept h hg (by
    cases e : v.ownBlock with
    | none => exact .inl rfl
    | some g => exact .inr (hne g e))
theorem FR.below {w w' : World} {B : Nat} {v : Value} {l : List Rn} (h : FR w B v l) (hb : Below w.heap.size w w') : FR w' B v l :=
  h.gr (row := none) ⟨hb.os, hb.tape, hb.output, hb.size, fun k hk _ => hb.block k hk⟩ (by simp)
end Go.Proofs.YtakmpmhjcngbbaaGreatDoor
namespace Go.Proofs.YtakmpmhjcngbbaaGreatDoor
open Go.ChangeShapes Go.WideShapes Go.ChangeAt Go.RowKit Go.Deep
theorem FR.setFar {w : World} {B : Nat} {v : Value} {l : List Rn} (h : FR w B v l) (q : Addr) (u : Value) (hv : v.ownBlock ≠ some q.block) : FR (w.setCell q u) B v l := by
  refine World.ownsRow.kept h (w' := w.setCell q u) (row := some q.block) ⟨rfl, rfl, rfl, by simp [World.setCell], fun k hk hne => Below.heap_setCell _ _ _ _ (fun e => hne (by rw [e]))⟩ ?_
  cases e : v.ownBlock with
  | none => exact .inl rfl
  | some b => exact .inr (fun e2 => hv (by rw [e]; exact e2))
section
variable {w wr w1 : World} {t : Nat} {va0 va1 vb0 vb1 : Value} {g c : Nat} {vr : Value} {l : List Lf} {lr : List Rn} {P Q : Nat → Nat}
end
end Go.Proofs.YtakmpmhjcngbbaaGreatDoor
namespace Go.Proofs.YtakmpmhjcngbbaaGreatDoor
open Go.ChangeShapes Go.WideShapes Go.ChangeAt Go.RowKit Go.Maps
def LvJ (w : World) (z0 : Nat × Nat) (bd : Nat) (J : List Lf) (ul : List Rn) : Prop := ∃ N B c n D G L, JF w B J [] N c z0 ∧ c ≤ 1048576 ∧ GrpR w bd n D G L ∧ outF L 8 = ul ∧ (∀ r, L r ≠ [] → 0 ≤ r ∧ r < 8) ∧ (∀ r, (L r).length ≤ 4000)
theorem LvJ.below {w w' : World} {z0 : Nat × Nat} {bd : Nat} {J : List Lf} {ul : List Rn} (h : LvJ w z0 bd J ul) (hb : Below w.heap.size w w') : LvJ w' z0 bd J ul := by
  obtain ⟨N, B, c, n, D, G, L, h1, h2, h3, h4⟩ := h
  exact ⟨N, B, c, n, D, G, L, ⟨h1.tre.below hb, h1.root, h1.there⟩, h2, h3.below hb, h4⟩
theorem FR.weak {w : World} {B C : Nat} {v : Value} {l : List Rn} (h : FR w B v l) (hc : C ≤ B) : FR w C v l := by
  obtain ⟨q1, q2⟩ := h
  refine ⟨q1, q2.imp id ?_⟩
  rintro ⟨g, cap, cur, e, hg, r⟩
  exact ⟨g, cap, cur, e, by omega, r⟩
theorem LC.lseg {w : World} {lo g n c : Nat} {l : List Lf} {P Q : Nat → Nat} (h : LC w lo (.slice (some ⟨g, 0, none⟩) n c) l P Q) (hn : n = l.length) : LSeg w (some ⟨g, 0, none⟩) l := by
  refine .inr ⟨g, 0, rfl, (h.lt g rfl).2, fun i hi => ?_⟩
  obtain ⟨c0, c1, c2, c3, c4⟩ := h.cell hn hi
  refine ⟨some ⟨P i, 0, none⟩, Q i, ?_, h.seg hi, ?_, ?_, ?_, ?_⟩
  · rw [Nat.zero_add]; exact c0
  · rw [Nat.zero_add]; exact c1
  · rw [Nat.zero_add]; exact c2
  · rw [Nat.zero_add]; exact c3
  · rw [Nat.zero_add]; exact c4
theorem Bx3.far {w w' : World} {b t : Nat} {v0 v1 v2 : Value} (h : Bx3 w b v0 v1 v2) (hg : w.grownBy w' (some t)) (hne : b ≠ t) : Bx3 w' b v0 v1 v2 := by
  have e := hg.block b h.lt (fun e => hne (by injection e))
  exact ⟨(World.cell?_of_block (a := ⟨b, 0, none⟩) e).trans h.c0, (World.cell?_of_block (a := ⟨b, 1, none⟩) e).trans h.c1, (World.cell?_of_block (a := ⟨b, 2, none⟩) e).trans h.c2, fun i => (World.frozen?_of_block (a := ⟨b, i, none⟩) e).trans (h.f i), Nat.lt_of_lt_of_le h.lt hg.size⟩
end Go.Proofs.YtakmpmhjcngbbaaGreatDoor
