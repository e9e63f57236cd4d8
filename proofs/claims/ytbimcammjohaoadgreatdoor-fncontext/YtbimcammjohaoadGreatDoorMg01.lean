import Derived.Test.YtbimcammjohaoadGreatDoorRows
import Derived.WalkKit
import Derived.ProofKit
import Derived.OpenShut
import Derived.ShutString
import Derived.ChangeOld
import Derived.Below
import Derived.WalkLawsBesides
import Derived.WalkSpells
import Derived.Outline
import Derived.Deep.RegionHeld3
namespace Go.Proofs.YtbimcammjohaoadGreatDoor
open Go.ChangeShapes Go.WideShapes Go.ChangeAt Go.RowKit
set_option linter.unusedVariables false

theorem hid {p : Prop} (h : p) : Hid p := h

def I64 (f : Nat → Int) : Prop := ∀ i, -9223372036854775808 ≤ f i ∧ f i ≤ 9223372036854775807

def RSeg (w : World) (a : Option Addr) (n : Nat) (R F T : Nat → Int) : Prop :=
  n = 0 ∨ ∃ b off, a = some ⟨b, off, none⟩ ∧ b < w.heap.size ∧ ∀ i, i < n → w.cell? ⟨b, off + i * 3, none⟩ = some (.int .i64 (R i)) ∧ w.cell? ⟨b, off + i * 3 + 1, none⟩ = some (.int .i64 (F i)) ∧ w.cell? ⟨b, off + i * 3 + 2, none⟩ = some (.int .i64 (T i))

theorem RSeg.kept {w w1 : World} {B : Nat} {a : Option Addr} {n : Nat} {R F T : Nat → Int} (h : RSeg w a n R F T) (hb : Below B w w1) (hc : ∀ x, a = some x → x.block < B) : RSeg w1 a n R F T := by
  rcases h with h | ⟨b, off, rfl, hlt, hcell⟩
  · exact .inl h
  · have hB : b < B := hc ⟨b, off, none⟩ rfl
    refine .inr ⟨b, off, rfl, Nat.lt_of_lt_of_le hlt hb.size, fun i hi => ?_⟩
    obtain ⟨h1, h2, h3⟩ := hcell i hi
    exact ⟨(hb.cell (p := ⟨b, _, none⟩) hB).trans h1, (hb.cell (p := ⟨b, _, none⟩) hB).trans h2, (hb.cell (p := ⟨b, _, none⟩) hB).trans h3⟩

theorem RSeg.below {w w1 : World} {a : Option Addr} {n : Nat} {R F T : Nat → Int} (h : RSeg w a n R F T) (hb : Below w.heap.size w w1) : RSeg w1 a n R F T := by
  rcases h with h | ⟨b, off, rfl, hlt, hcell⟩
  · exact .inl h
  · exact RSeg.kept (.inr ⟨b, off, rfl, hlt, hcell⟩) hb (fun x hx => by simp at hx; subst hx; exact hlt)

theorem RSeg.same {w w1 : World} {a : Option Addr} {n : Nat} {R F T : Nat → Int} (h : RSeg w a n R F T) (hs : w.heap.size ≤ w1.heap.size) (hc : ∀ x, a = some x → w1.heap[x.block]? = w.heap[x.block]?) : RSeg w1 a n R F T := by
  rcases h with h | ⟨b, off, rfl, hlt, hcell⟩
  · exact .inl h
  · have hB : w1.heap[b]? = w.heap[b]? := hc ⟨b, off, none⟩ rfl
    have hC : ∀ o, w1.cell? ⟨b, o, none⟩ = w.cell? ⟨b, o, none⟩ := fun o => World.cell?_of_block (w := w) (w' := w1) (a := ⟨b, o, none⟩) hB
    refine .inr ⟨b, off, rfl, Nat.lt_of_lt_of_le hlt hs, fun i hi => ?_⟩
    obtain ⟨h1, h2, h3⟩ := hcell i hi
    exact ⟨(hC _).trans h1, (hC _).trans h2, (hC _).trans h3⟩

theorem RSeg.set {w : World} {a : Option Addr} {n : Nat} {R F T : Nat → Int} (h : RSeg w a n R F T) (p : Addr) (u : Value) (hp : ∀ x, a = some x → x.block ≠ p.block) : RSeg (w.setCell p u) a n R F T :=
  h.same (by simp [World.setCell]) (fun x hx => Below.heap_setCell _ _ _ _ (hp x hx))

def runOkB (r f t : Int) : Bool := decide (0 ≤ r ∧ r < 8 ∧ 1 ≤ f ∧ f ≤ t ∧ t ≤ 1000000000)
def apartB (r t r' f' : Int) : Bool := decide (r < r' ∨ (r = r' ∧ t + 1 < f'))

theorem runOk_true {r f t : Int} (h : 0 ≤ r ∧ r < 8 ∧ 1 ≤ f ∧ f ≤ t ∧ t ≤ 1000000000) : runOkB r f t = true := by unfold runOkB; exact decide_eq_true h
theorem runOk_false {r f t : Int} (h : ¬ (0 ≤ r ∧ r < 8 ∧ 1 ≤ f ∧ f ≤ t ∧ t ≤ 1000000000)) : runOkB r f t = false := by unfold runOkB; exact decide_eq_false h
theorem runOk_iff {r f t : Int} : runOkB r f t = true ↔ (0 ≤ r ∧ r < 8 ∧ 1 ≤ f ∧ f ≤ t ∧ t ≤ 1000000000) := by unfold runOkB; simp
theorem retB {a b : Bool} (h : a = b) : Ending.returned (.bool a) = .returned (.bool b) := by rw [h]

def szLeft (l : Int) (n : Nat) : Int := if l < n then -1 else l - n
theorem ret_int {k : IntKind} {a b : Int} (h : a = b) : Ending.returned (.int k a) = .returned (.int k b) := by rw [h]

theorem Tryz.infoRun : (Tryz.prog.info? 41).map (fun i => (i.zero, i.size, i.bytes)) = some (some (.agg #[.int .i64 0, .int .i64 0, .int .i64 0]), 3, 24) := by kernel_rfl

theorem bcell {W w1 : World} (hb : Below W.heap.size W w1) : (∀ b o, b < W.heap.size → w1.cell? ⟨b, o, none⟩ = W.cell? ⟨b, o, none⟩) ∧ (∀ b o, b < W.heap.size → w1.frozen? ⟨b, o, none⟩ = W.frozen? ⟨b, o, none⟩) :=
  ⟨fun b o h => hb.cell (p := ⟨b, o, none⟩) h, fun b o h => hb.frozen (p := ⟨b, o, none⟩) h⟩

theorem owns_below {w w1 : World} {B C : Nat} {e : TypeId} {size : Nat} {v : Value} {n : Nat} {xs : List Value} (h : w.ownsRow B e size v n xs) (hb : Below C w w1) (hc : ∀ k, v.ownBlock = some k → k < C) : w1.ownsRow B e size v n xs := by
  obtain ⟨h1, h2⟩ := h
  refine ⟨h1, ?_⟩
  rcases h2 with h2 | ⟨g, cap, cur, rfl, hbg, hg, r⟩
  · exact .inl h2
  · exact .inr ⟨g, cap, cur, rfl, hbg, by rw [hb.block g (hc g rfl)]; exact hg, r⟩

theorem owns_cell {w : World} {B : Nat} {e : TypeId} {size g n cap : Nat} {xs : List Value} (h : w.ownsRow B e size (.slice (some ⟨g, 0, none⟩) n cap) n xs) (j : Nat) (hj : j < n * size) : ∃ u, w.cell? ⟨g, j, none⟩ = some u := by
  rw [h.cellAt j hj]
  have := h.1
  exact ⟨_, List.getElem?_eq_getElem (by omega)⟩

theorem owns_set {w : World} {B : Nat} {e : TypeId} {size g n cap : Nat} {xs : List Value} (h : w.ownsRow B e size (.slice (some ⟨g, 0, none⟩) n cap) n xs) (p : Addr) (u : Value) (hp : g ≠ p.block) : (w.setCell p u).ownsRow B e size (.slice (some ⟨g, 0, none⟩) n cap) n xs := by
  obtain ⟨h1, h2⟩ := h
  refine ⟨h1, ?_⟩
  rcases h2 with ⟨h2, _⟩ | ⟨g', cap', cur, e1, hb, hg, r⟩
  · cases h2
  · refine .inr ⟨g', cap', cur, e1, hb, ?_, r⟩
    injection e1 with e1
    injection e1 with e1
    injection e1 with e1
    subst e1
    exact (Below.heap_setCell _ _ _ _ hp).trans hg

end Go.Proofs.YtbimcammjohaoadGreatDoor

namespace Go.Proofs.YtbimcammjohaoadGreatDoor
open Go.ChangeShapes Go.WideShapes Go.ChangeAt Go.RowKit
set_option linter.unusedVariables false

def Seg (w : World) (a : Option Addr) (n : Nat) (f : Nat → Int) : Prop :=
  n = 0 ∨ ∃ b off, a = some ⟨b, off, none⟩ ∧ b < w.heap.size ∧ ∀ i, i < n → w.cell? ⟨b, off + i, none⟩ = some (.int .u8 (f i))

def Byt (f : Nat → Int) : Prop := ∀ i, 0 ≤ f i ∧ f i < 256

theorem Seg.below {w w' : World} {a : Option Addr} {n : Nat} {f : Nat → Int} (h : Seg w a n f) (hb : Below w.heap.size w w') : Seg w' a n f := by
  rcases h with h | ⟨b, off, rfl, hlt, hc⟩
  · exact .inl h
  · exact .inr ⟨b, off, rfl, Nat.lt_of_lt_of_le hlt hb.size, fun i hi => (hb.cell (p := ⟨b, off + i, none⟩) hlt).trans (hc i hi)⟩

theorem Tryz.infoByte : (Tryz.prog.info? 5).map (fun i => (i.zero, i.size, i.bytes)) = some (some (.int .u8 0), 1, 1) := by kernel_rfl

def cells8 (f : Nat → Int) (n : Nat) : List Value := (List.range n).map fun i => .int .u8 (f i)
def mix (f : Nat → Int) (k : Nat) (i : Nat) : Int := if i < k then f i else 0

theorem cells8_get (f : Nat → Int) (n i : Nat) (h : i < n) : (cells8 f n)[i]? = some (.int .u8 (f i)) := by
  simp [cells8, h]

theorem cells8_zero (f : Nat → Int) (n : Nat) : (madeCells #[.int .u8 0] n).toList = cells8 (mix f 0) n := by
  rw [toList_madeCells_one]
  apply List.ext_getElem?
  intro j
  by_cases hj : j < n
  · simp [cells8, hj, mix]
  · simp [cells8, hj]

theorem cells8_set (f : Nat → Int) (n k : Nat) (h : k < n) : (cells8 (mix f k) n).set k (.int .u8 (f k)) = cells8 (mix f (k + 1)) n := by
  apply List.ext_getElem?
  intro j
  by_cases hj : j < n
  · by_cases hjk : k = j
    · subst hjk; simp [cells8, hj, mix]
    · rw [List.getElem?_set_ne hjk, cells8_get _ _ _ hj, cells8_get _ _ _ hj]
      have : mix f k j = mix f (k + 1) j := by unfold mix; split <;> split <;> first | rfl | omega
      rw [this]
  · rw [List.getElem?_eq_none (by simp [cells8]; omega), List.getElem?_eq_none (by simp [cells8]; omega)]

theorem seg_own {w : World} {B g n cap : Nat} {f : Nat → Int} (h : w.ownsRow B 5 1 (.slice (some ⟨g, 0, none⟩) n cap) n (cells8 (mix f n) n)) : Seg w (some ⟨g, 0, none⟩) n f := by
  refine .inr ⟨g, 0, rfl, (h.lt g rfl).2, fun i hi => ?_⟩
  rw [Nat.zero_add, h.cellAt i (by omega), cells8_get _ _ _ hi]
  simp [mix, hi]

theorem seg_of {w : World} {a0 : Option Addr} {len0 cap0 : Nat} {z0 : List Int}
    (w0 : (a0 = none ∧ len0 = 0 ∧ cap0 = 0 ∧ z0 = []) ∨
      ∃ x, a0 = some x ∧ len0 ≤ cap0 ∧ cap0 ≤ maxLen ∧ z0.length = cap0 ∧ (∀ i, i < z0.length → w.cell? (x.add i) = some (.int .u8 (z0.getD i 0))) ∧ ∀ n ∈ z0, (Lit.int .u8 n).wf = true) :
    Seg w a0 len0 (fun i => z0.getD i 0) ∧ Byt (fun i => z0.getD i 0) ∧ len0 ≤ 9223372036854775807 := by
  rcases w0 with ⟨rfl, rfl, rfl, rfl⟩ | ⟨⟨b, off, sp⟩, rfl, hl, hm, hz, hcell, hwz⟩
  · exact ⟨.inl rfl, fun i => by simp, by omega⟩
  · refine ⟨?_, fun i => ?_, by unfold maxLen at hm; omega⟩
    · by_cases h0 : len0 = 0
      · exact .inl h0
      · have hc0 := hcell 0 (by omega)
        have hsp : sp = none := by simpa [Addr.add] using World.cell?_spot hc0
        subst hsp
        refine .inr ⟨b, off, rfl, block_lt_of_cell hc0, fun i hi => ?_⟩
        have h := hcell i (by omega)
        by_cases hi0 : i = 0
        · subst hi0; simpa [Addr.add] using h
        · simpa [Addr.add, hi0] using h
    · by_cases hi : i < z0.length
      · have := hwz (z0.getD i 0) (by simp [List.getD, hi])
        have b := bounds_u8 this
        show 0 ≤ z0.getD i 0 ∧ z0.getD i 0 < 256
        omega
      · simp [List.getD, hi]
end Go.Proofs.YtbimcammjohaoadGreatDoor
