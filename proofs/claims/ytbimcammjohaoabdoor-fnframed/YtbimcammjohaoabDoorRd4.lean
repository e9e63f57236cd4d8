import Derived.Test.YtbimcammjohaoabDoorRd2
import Derived.Test.YtbimcammjohaoabDoorWt
namespace Go.Proofs.YtbimcammjohaoabDoor
open Go.ChangeShapes Go.WideShapes Go.ChangeAt Go.RowKit
set_option linter.unusedVariables false
set_option linter.unusedSimpArgs false

theorem row_form1 {w : World} {B : Nat} {v : Value} {zs : List Int} (h : Own w B v zs) : ∃ y m c, v = .slice y m c ∧ m = zs.length := by
  rcases h.2 with ⟨rfl, h0⟩ | ⟨g, cap, cur, rfl, _⟩
  · exact ⟨_, _, _, rfl, h0.symm⟩
  · exact ⟨_, _, _, rfl, rfl⟩

def Src (w : World) (g cap : Nat) (zs : List Int) : Prop := g < w.heap.size ∧ zs.length ≤ cap ∧ cap ≤ 9223372036854775807 ∧ (∀ i, i < zs.length → w.cell? ⟨g, i, none⟩ = some (.int .u8 (zs.getD i 0))) ∧ ∀ z ∈ zs, 0 ≤ z ∧ z < 256
theorem Src.gr {w w' : World} {g cap : Nat} {zs : List Int} {row : Option Nat} (h : Src w g cap zs) (hg : w.grownBy w' row) (hne : some g ≠ row) : Src w' g cap zs :=
  ⟨Nat.lt_of_lt_of_le h.1 hg.size, h.2.1, h.2.2.1, fun i hi => by rw [World.cell?_of_block (hg.block g h.1 hne)]; exact h.2.2.2.1 i hi, h.2.2.2.2⟩
theorem Src.below {w w' : World} {B g cap : Nat} {zs : List Int} (h : Src w g cap zs) (hb : Below B w w') (hg : g < B) : Src w' g cap zs :=
  ⟨Nat.lt_of_lt_of_le h.1 hb.size, h.2.1, h.2.2.1, fun i hi => (hb.cell (p := ⟨g, i, none⟩) hg).trans (h.2.2.2.1 i hi), h.2.2.2.2⟩
theorem Bys.src {w : World} {B : Nat} {v : Value} {zs : List Int} (h : Bys w B v zs) (hz : zs ≠ []) : ∃ g cap, v = .slice (some ⟨g, 0, none⟩) zs.length cap ∧ B ≤ g ∧ Src w g cap zs := by
  obtain ⟨ho, hby⟩ := h
  rcases ho.2 with ⟨e, e0⟩ | ⟨g, cap, cur, e, hb, hg, hnc, hcm, hcs, htk⟩
  · exact absurd (List.length_eq_zero_iff.1 e0) hz
  · have ho' : w.ownsRow B 5 1 v zs.length (zs.map (Value.int .u8)) := ho
    rw [e] at ho'
    refine ⟨g, cap, e, (World.ownsRow.lt ho' g rfl).1, (World.ownsRow.lt ho' g rfl).2, hnc, by unfold maxLen at hcm; omega, fun i hi => ?_, hby⟩
    have := ho'.cellAt i (by omega)
    rw [this]
    simp [List.getD, hi]

def win (zs : List Int) (lo len : Nat) : List Value := ((zs.drop lo).take len).map (Value.int .u8)
theorem win_len {zs : List Int} {lo len : Nat} (h : lo + len ≤ zs.length) : (win zs lo len).length = len * 1 := by simp [win]; omega
theorem win_one (zs : List Int) (lo len : Nat) : ∀ u ∈ win zs lo len, u.oneCell' = true := by
  intro u hu
  simp only [win, List.mem_map] at hu
  obtain ⟨z, _, rfl⟩ := hu
  rfl
theorem win_cells {w : World} {g cap : Nat} {zs : List Int} (h : Src w g cap zs) {lo len : Nat} (hl : lo + len ≤ zs.length) : ∀ j u, (win zs lo len)[j]? = some u → w.cell? ((⟨g, lo, none⟩ : Addr).add j) = some u := by
  intro j u hj
  have hlt : j < len := by
    have := (List.getElem?_eq_some_iff.1 hj).1
    rw [win_len hl] at this; omega
  have e : ((⟨g, lo, none⟩ : Addr).add j) = ⟨g, lo + j, none⟩ := by
    by_cases h0 : j = 0
    · subst h0; simp [Addr.add]
    · simp [Addr.add, h0]
  rw [e, h.2.2.2.1 (lo + j) (by omega)]
  have hg : lo + j < zs.length := by omega
  simp [win, List.getElem?_take, hlt, List.getElem?_drop, hg] at hj
  simp [List.getD, hg, hj]
theorem win_nil (w : World) (ad : Addr) : ∀ j u, ([] : List Value)[j]? = some u → w.cell? (ad.add j) = some u := by intro j u hj; simp at hj
theorem bys_win {zs ys : List Int} (lo len : Nat) (hy : ∀ z ∈ ys, 0 ≤ z ∧ z < 256) (hz : ∀ z ∈ zs, 0 ≤ z ∧ z < 256) : ∀ z ∈ ys ++ (zs.drop lo).take len, 0 ≤ z ∧ z < 256 := by
  intro z h
  rcases List.mem_append.1 h with h | h
  · exact hy z h
  · exact hz z (List.mem_of_mem_drop (List.mem_of_mem_take h))

end Go.Proofs.YtbimcammjohaoabDoor
