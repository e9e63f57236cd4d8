import Derived.Test.YtakmpmhjcngbbaaGreatDoorMgg05
set_option linter.unusedVariables false
set_option linter.unusedSimpArgs false
set_option maxRecDepth 100000
set_option maxHeartbeats 40000000
namespace Go.Proofs.YtakmpmhjcngbbaaGreatDoor
open Go.ChangeShapes Go.WideShapes Go.ChangeAt Go.RowKit
theorem infoStr : (Tryz.prog.info? 9).map (fun i => (i.zero, i.size, i.bytes)) = some (some (.string ByteArray.empty), 1, 16) := by kernel_rfl
structure Bx5 (w : World) (b : Nat) (v0 v1 v2 v3 v4 : Value) : Prop where
  c0 : w.cell? ⟨b, 0, none⟩ = some v0
  c1 : w.cell? ⟨b, 1, none⟩ = some v1
  c2 : w.cell? ⟨b, 2, none⟩ = some v2
  c3 : w.cell? ⟨b, 3, none⟩ = some v3
  c4 : w.cell? ⟨b, 4, none⟩ = some v4
  f : ∀ i, w.frozen? ⟨b, i, none⟩ = false
  lt : b < w.heap.size
theorem Bx5.below {w w' : World} {B b : Nat} {v0 v1 v2 v3 v4 : Value} (h : Bx5 w b v0 v1 v2 v3 v4) (hb : Below B w w') (hB : b < B) : Bx5 w' b v0 v1 v2 v3 v4 :=
  ⟨(hb.cell (p := ⟨b, 0, none⟩) hB).trans h.c0, (hb.cell (p := ⟨b, 1, none⟩) hB).trans h.c1, (hb.cell (p := ⟨b, 2, none⟩) hB).trans h.c2, (hb.cell (p := ⟨b, 3, none⟩) hB).trans h.c3, (hb.cell (p := ⟨b, 4, none⟩) hB).trans h.c4, fun i => (hb.frozen (p := ⟨b, i, none⟩) hB).trans (h.f i), Nat.lt_of_lt_of_le h.lt hb.size⟩
def PMk (w : World) (g n : Nat) : Prop := ∃ cur, w.heap[g]? = some (.cells cur 9 (0, 0)) ∧ n ≤ cur.size
theorem PMk.same {w w' : World} {g n : Nat} (h : PMk w g n) (e : w'.heap[g]? = w.heap[g]?) : PMk w' g n := by
  obtain ⟨cur, h1, h2⟩ := h; exact ⟨cur, e.trans h1, h2⟩
theorem PMk.set {w : World} {g n : Nat} (h : PMk w g n) (q : Addr) (u : Value) (hq : g ≠ q.block) : PMk (w.setCell q u) g n := h.same (Below.heap_setCell _ _ _ _ hq)
theorem infoLeaf : (Tryz.prog.info? 89).map (fun i => (i.zero, i.size, i.bytes)) = some (some (.agg #[.slice none 0 0, .bool false, .int .i64 0, .int .i64 0, .string ByteArray.empty]), 5, 64) := by kernel_rfl
def LCap (w : World) (a : Option Addr) (l : List Lf) : Prop :=
  l.length = 0 ∨ ∃ b off, a = some ⟨b, off, none⟩ ∧ b < w.heap.size ∧ ∀ i, i < l.length → ∃ pa pc, (w.cell? ⟨b, off + i * 5, none⟩ = some (.slice pa (gL l i).p.length pc) ∧ (gL l i).p.length ≤ pc ∧ pc ≤ 9223372036854775807) ∧ SSeg w pa (gL l i).p ∧ w.cell? ⟨b, off + i * 5 + 1, none⟩ = some (.bool (gL l i).fl) ∧ w.cell? ⟨b, off + i * 5 + 2, none⟩ = some (.int .i64 (gL l i).r) ∧ w.cell? ⟨b, off + i * 5 + 3, none⟩ = some (.int .i64 (gL l i).q) ∧ w.cell? ⟨b, off + i * 5 + 4, none⟩ = some (.string (gL l i).v)
theorem LCap.below {w w1 : World} {a : Option Addr} {l : List Lf} (h : LCap w a l) (hb : Below w.heap.size w w1) : LCap w1 a l := by
  refine h.imp id ?_
  rintro ⟨b, off, e, hlt, hc⟩
  refine ⟨b, off, e, Nat.lt_of_lt_of_le hlt hb.size, fun i hi => ?_⟩
  obtain ⟨pa, pc, ⟨c0, d0⟩, s, c1, c2, c3, c4⟩ := hc i hi
  have q := fun o => hb.cell (p := ⟨b, o, none⟩) hlt
  exact ⟨pa, pc, ⟨(q _).trans c0, d0⟩, s.below hb, (q _).trans c1, (q _).trans c2, (q _).trans c3, (q _).trans c4⟩
end Go.Proofs.YtakmpmhjcngbbaaGreatDoor
