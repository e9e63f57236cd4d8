import Derived.Test.YtemfhnnkkmiamaaGreatDoorRows
import Derived.WalkKit
import Derived.ProofKit
import Derived.OpenShut
import Derived.ShutString
import Derived.ChangeOld
import Derived.Below
import Derived.WalkLawsBesides
import Derived.WalkSpells
import Derived.Outline
import Derived.Deep.RegionHeld3
namespace Go.Proofs.YtemfhnnkkmiamaaGreatDoor
open Go.ChangeShapes Go.WideShapes Go.ChangeAt Go.RowKit
set_option linter.unusedVariables false

theorem hid {p : Prop} (h : p) : Hid p := h

def I64 (f : Nat → Int) : Prop := ∀ i, -9223372036854775808 ≤ f i ∧ f i ≤ 9223372036854775807

def RSeg (w : World) (a : Option Addr) (n : Nat) (R F T : Nat → Int) : Prop :=
  n = 0 ∨ ∃ b off, a = some ⟨b, off, none⟩ ∧ b < w.heap.size ∧ ∀ i, i < n → w.cell? ⟨b, off + i * 3, none⟩ = some (.int .i64 (R i)) ∧ w.cell? ⟨b, off + i * 3 + 1, none⟩ = some (.int .i64 (F i)) ∧ w.cell? ⟨b, off + i * 3 + 2, none⟩ = some (.int .i64 (T i))

theorem RSeg.kept {w w1 : World} {B : Nat} {a : Option Addr} {n : Nat} {R F T : Nat → Int} (h : RSeg w a n R F T) (hb : Below B w w1) (hc : ∀ x, a = some x → x.block < B) : RSeg w1 a n R F T := by
  rcases h with h | ⟨b, off, rfl, hlt, hcell⟩
  · exact .inl h
  · have hB : b < B := hc ⟨b, off, none⟩ rfl
    refine .inr ⟨b, off, rfl, Nat.lt_of_lt_of_le hlt hb.size, fun i hi => ?_⟩
    obtain ⟨h1, h2, h3⟩ := hcell i hi
    exact ⟨(hb.cell (p := ⟨b, _, none⟩) hB).trans h1, (hb.cell (p := ⟨b, _, none⟩) hB).trans h2, (hb.cell (p := ⟨b, _, none⟩) hB).trans h3⟩

theorem RSeg.below {w w1 : World} {a : Option Addr} {n : Nat} {R F T : Nat → Int} (h : RSeg w a n R F T) (hb : Below w.heap.size w w1) : RSeg w1 a n R F T := by
  rcases h with h | ⟨b, off, rfl, hlt, hcell⟩
  · exact .inl h
  · exact RSeg.kept (.inr ⟨b, off, rfl, hlt, hcell⟩) hb (fun x hx => by simp at hx; subst hx; exact hlt)

theorem RSeg.same {w w1 : World} {a : Option Addr} {n : Nat} {R F T : Nat → Int} (h : RSeg w a n R F T) (hs : w.heap.size ≤ w1.heap.size) (hc : ∀ x, a = some x → w1.heap[x.block]? = w.heap[x.block]?) : RSeg w1 a n R F T := by
  rcases h with h | ⟨b, off, rfl, hlt, hcell⟩
  · exact .inl h
  · have hB : w1.heap[b]? = w.heap[b]? := hc ⟨b, off, none⟩ rfl
    have hC : ∀ o, w1.cell? ⟨b, o, none⟩ = w.cell? ⟨b, o, none⟩ := fun o => World.cell?_of_block (w := w) (w' := w1) (a := ⟨b, o, none⟩) hB
    refine .inr ⟨b, off, rfl, Nat.lt_of_lt_of_le hlt hs, fun i hi => ?_⟩
    obtain ⟨h1, h2, h3⟩ := hcell i hi
    exact ⟨(hC _).trans h1, (hC _).trans h2, (hC _).trans h3⟩

theorem RSeg.set {w : World} {a : Option Addr} {n : Nat} {R F T : Nat → Int} (h : RSeg w a n R F T) (p : Addr) (u : Value) (hp : ∀ x, a = some x → x.block ≠ p.block) : RSeg (w.setCell p u) a n R F T :=
  h.same (by simp [World.setCell]) (fun x hx => Below.heap_setCell _ _ _ _ (hp x hx))

def runOkB (r f t : Int) : Bool := decide (0 ≤ r ∧ r < 8 ∧ 1 ≤ f ∧ f ≤ t ∧ t ≤ 1000000000)
def apartB (r t r' f' : Int) : Bool := decide (r < r' ∨ (r = r' ∧ t + 1 < f'))

theorem runOk_true {r f t : Int} (h : 0 ≤ r ∧ r < 8 ∧ 1 ≤ f ∧ f ≤ t ∧ t ≤ 1000000000) : runOkB r f t = true := by unfold runOkB; exact decide_eq_true h
theorem runOk_false {r f t : Int} (h : ¬ (0 ≤ r ∧ r < 8 ∧ 1 ≤ f ∧ f ≤ t ∧ t ≤ 1000000000)) : runOkB r f t = false := by unfold runOkB; exact decide_eq_false h
theorem runOk_iff {r f t : Int} : runOkB r f t = true ↔ (0 ≤ r ∧ r < 8 ∧ 1 ≤ f ∧ f ≤ t ∧ t ≤ 1000000000) := by unfold runOkB; simp
theorem retB {a b : Bool} (h : a = b) : Ending.returned (.bool a) = .returned (.bool b) := by rw [h]

def szLeft (l : Int) (n : Nat) : Int := if l < n then -1 else l - n
theorem ret_int {k : IntKind} {a b : Int} (h : a = b) : Ending.returned (.int k a) = .returned (.int k b) := by rw [h]

theorem Tryz.infoRun : (Tryz.prog.info? 222).map (fun i => (i.zero, i.size, i.bytes)) = some (some (.agg #[.int .i64 0, .int .i64 0, .int .i64 0]), 3, 24) := by kernel_rfl

theorem bcell {W w1 : World} (hb : Below W.heap.size W w1) : (∀ b o, b < W.heap.size → w1.cell? ⟨b, o, none⟩ = W.cell? ⟨b, o, none⟩) ∧ (∀ b o, b < W.heap.size → w1.frozen? ⟨b, o, none⟩ = W.frozen? ⟨b, o, none⟩) :=
  ⟨fun b o h => hb.cell (p := ⟨b, o, none⟩) h, fun b o h => hb.frozen (p := ⟨b, o, none⟩) h⟩

theorem owns_below {w w1 : World} {B C : Nat} {e : TypeId} {size : Nat} {v : Value} {n : Nat} {xs : List Value} (h : w.ownsRow B e size v n xs) (hb : Below C w w1) (hc : ∀ k, v.ownBlock = some k → k < C) : w1.ownsRow B e size v n xs := by
  obtain ⟨h1, h2⟩ := h
  refine ⟨h1, ?_⟩
  rcases h2 with h2 | ⟨g, cap, cur, rfl, hbg, hg, r⟩
  · exact .inl h2
  · exact .inr ⟨g, cap, cur, rfl, hbg, by rw [hb.block g (hc g rfl)]; exact hg, r⟩

theorem owns_cell {w : World} {B : Nat} {e : TypeId} {size g n cap : Nat} {xs : List Value} (h : w.ownsRow B e size (.slice (some ⟨g, 0, none⟩) n cap) n xs) (j : Nat) (hj : j < n * size) : ∃ u, w.cell? ⟨g, j, none⟩ = some u := by
  rw [h.cellAt j hj]
  have := h.1
  exact ⟨_, List.getElem?_eq_getElem (by omega)⟩

theorem owns_set {w : World} {B : Nat} {e : TypeId} {size g n cap : Nat} {xs : List Value} (h : w.ownsRow B e size (.slice (some ⟨g, 0, none⟩) n cap) n xs) (p : Addr) (u : Value) (hp : g ≠ p.block) : (w.setCell p u).ownsRow B e size (.slice (some ⟨g, 0, none⟩) n cap) n xs := by
  obtain ⟨h1, h2⟩ := h
  refine ⟨h1, ?_⟩
  rcases h2 with ⟨h2, _⟩ | ⟨g', cap', cur, e1, hb, hg, r⟩
  · cases h2
  · refine .inr ⟨g', cap', cur, e1, hb, ?_, r⟩
    injection e1 with e1
    injection e1 with e1
    injection e1 with e1
    subst e1
    exact (Below.heap_setCell _ _ _ _ hp).trans hg

end Go.Proofs.YtemfhnnkkmiamaaGreatDoor
