import Derived.Test.YthkppnmnjboiaaaDoorRows
import Derived.WalkKit
import Derived.ProofKit
import Derived.OpenShut
import Derived.ShutString
import Derived.ChangeOld
import Derived.Below
import Derived.WalkLawsBesides
import Derived.WalkSpells
import Derived.Outline
namespace Go.Proofs.YthkppnmnjboiaaaDoor
open Go.ChangeShapes Go.WideShapes Go.ChangeAt Go.RowKit
set_option linter.unusedVariables false

def Seg (w : World) (a : Option Addr) (n : Nat) (f : Nat → Int) : Prop :=
  n = 0 ∨ ∃ b off, a = some ⟨b, off, none⟩ ∧ b < w.heap.size ∧ ∀ i, i < n → w.cell? ⟨b, off + i, none⟩ = some (.int .u8 (f i))

def Byt (f : Nat → Int) : Prop := ∀ i, 0 ≤ f i ∧ f i < 256

theorem Seg.below {w w' : World} {a : Option Addr} {n : Nat} {f : Nat → Int} (h : Seg w a n f) (hb : Below w.heap.size w w') : Seg w' a n f := by
  rcases h with h | ⟨b, off, rfl, hlt, hc⟩
  · exact .inl h
  · exact .inr ⟨b, off, rfl, Nat.lt_of_lt_of_le hlt hb.size, fun i hi => (hb.cell (p := ⟨b, off + i, none⟩) hlt).trans (hc i hi)⟩

theorem ret_int {k : IntKind} {a b : Int} (h : a = b) : Ending.returned (.int k a) = .returned (.int k b) := by rw [h]

theorem Tryd.infoByte : (Tryd.prog.info? 5).map (fun i => (i.zero, i.size, i.bytes)) = some (some (.int .u8 0), 1, 1) := by kernel_rfl

def cells8 (f : Nat → Int) (n : Nat) : List Value := (List.range n).map fun i => .int .u8 (f i)
def mix (f : Nat → Int) (k : Nat) (i : Nat) : Int := if i < k then f i else 0

theorem cells8_get (f : Nat → Int) (n i : Nat) (h : i < n) : (cells8 f n)[i]? = some (.int .u8 (f i)) := by
  simp [cells8, h]

theorem cells8_zero (f : Nat → Int) (n : Nat) : (madeCells #[.int .u8 0] n).toList = cells8 (mix f 0) n := by
  rw [toList_madeCells_one]
  apply List.ext_getElem?
  intro j
  by_cases hj : j < n
  · simp [cells8, hj, mix]
  · simp [cells8, hj]

theorem cells8_set (f : Nat → Int) (n k : Nat) (h : k < n) : (cells8 (mix f k) n).set k (.int .u8 (f k)) = cells8 (mix f (k + 1)) n := by
  apply List.ext_getElem?
  intro j
  by_cases hj : j < n
  · by_cases hjk : k = j
    · subst hjk; simp [cells8, hj, mix]
    · rw [List.getElem?_set_ne hjk, cells8_get _ _ _ hj, cells8_get _ _ _ hj]
      have : mix f k j = mix f (k + 1) j := by unfold mix; split <;> split <;> first | rfl | omega
      rw [this]
  · rw [List.getElem?_eq_none (by simp [cells8]; omega), List.getElem?_eq_none (by simp [cells8]; omega)]

theorem seg_own {w : World} {B g n cap : Nat} {f : Nat → Int} (h : w.ownsRow B 5 1 (.slice (some ⟨g, 0, none⟩) n cap) n (cells8 (mix f n) n)) : Seg w (some ⟨g, 0, none⟩) n f := by
  refine .inr ⟨g, 0, rfl, (h.lt g rfl).2, fun i hi => ?_⟩
  rw [Nat.zero_add, h.cellAt i (by omega), cells8_get _ _ _ hi]
  simp [mix, hi]

theorem seg_of {w : World} {a0 : Option Addr} {len0 cap0 : Nat} {z0 : List Int}
    (w0 : (a0 = none ∧ len0 = 0 ∧ cap0 = 0 ∧ z0 = []) ∨
      ∃ x, a0 = some x ∧ len0 ≤ cap0 ∧ cap0 ≤ maxLen ∧ z0.length = cap0 ∧ (∀ i, i < z0.length → w.cell? (x.add i) = some (.int .u8 (z0.getD i 0))) ∧ ∀ n ∈ z0, (Lit.int .u8 n).wf = true) :
    Seg w a0 len0 (fun i => z0.getD i 0) ∧ Byt (fun i => z0.getD i 0) ∧ len0 ≤ 9223372036854775807 := by
  rcases w0 with ⟨rfl, rfl, rfl, rfl⟩ | ⟨⟨b, off, sp⟩, rfl, hl, hm, hz, hcell, hwz⟩
  · exact ⟨.inl rfl, fun i => by simp, by omega⟩
  · refine ⟨?_, fun i => ?_, by unfold maxLen at hm; omega⟩
    · by_cases h0 : len0 = 0
      · exact .inl h0
      · have hc0 := hcell 0 (by omega)
        have hsp : sp = none := by simpa [Addr.add] using World.cell?_spot hc0
        subst hsp
        refine .inr ⟨b, off, rfl, block_lt_of_cell hc0, fun i hi => ?_⟩
        have h := hcell i (by omega)
        by_cases hi0 : i = 0
        · subst hi0; simpa [Addr.add] using h
        · simpa [Addr.add, hi0] using h
    · by_cases hi : i < z0.length
      · have := hwz (z0.getD i 0) (by simp [List.getD, hi])
        have b := bounds_u8 this
        show 0 ≤ z0.getD i 0 ∧ z0.getD i 0 < 256
        omega
      · simp [List.getD, hi]
end Go.Proofs.YthkppnmnjboiaaaDoor
