import Derived.Test.YthkppnmnjboiaaaDoorWv
import Derived.Lib.AppendStr
import Derived.Laws.IdiomStrings
namespace Go.Proofs.YthkppnmnjboiaaaDoor
open Go.ChangeShapes Go.WideShapes Go.ChangeAt Go.RowKit
set_option linter.unusedVariables false

def strInts (s : ByteArray) : List Int := s.data.toList.map fun b => (b.toNat : Int)
theorem strInts_length (s : ByteArray) : (strInts s).length = s.size := by
  rw [strInts, List.length_map, Array.length_toList]; rfl
theorem strInts_cells (s : ByteArray) : (strInts s).map (Value.int .u8) = Lib.strCells s := by
  simp [strInts, Lib.strCells, List.map_map, Function.comp_def]
theorem strInts_byte (s : ByteArray) : ∀ z ∈ strInts s, 0 ≤ z ∧ z < 256 := by
  intro z hz
  simp only [strInts, List.mem_map] at hz
  obtain ⟨b, _, rfl⟩ := hz
  have := b.toNat_lt
  omega

theorem bytesOfStr (s : ByteArray) (w : World) : ∃ cap w', (convert 9 22 (.string s)).run Tryd.prog w = .ok (.slice (some ⟨w.heap.size, 0, none⟩) s.size cap) w' ∧ Below w.heap.size w w' ∧ w.heap.size < w'.heap.size ∧
    ∀ j u, (Lib.strCells s)[j]? = some u → w'.cell? ((⟨w.heap.size, 0, none⟩ : Addr).add j) = some u := by
  refine ⟨_, _, run_bytes_of_string (P := Tryd.prog) w 9 22 5 s Tryd.underlying9 Tryd.underlying22 Tryd.underlying5, ?_, ?_, ?_⟩
  · exact (Below.refl _ _).drew.alloc (Nat.le_refl _) _
  · simp
  · intro j u hj
    have hlt : j < s.size := by
      have := (List.getElem?_eq_some_iff.1 hj).1
      rw [Lib.strCells_length] at this; exact this
    have hc : ∀ (C : Array Value) (fr : Nat × Nat), (w.drew.alloc (.cells C 5 fr)).cell? ⟨w.heap.size, j, none⟩ = C[j]? := by
      intro C fr
      exact cell_of_row _ _ _ _ _ _ (heap_alloc_new w.drew _)
    have e : ((⟨w.heap.size, 0, none⟩ : Addr).add j) = ⟨w.heap.size, j, none⟩ := by
      by_cases h0 : j = 0
      · subst h0; rfl
      · simp [Addr.add, h0]
    rw [e, hc]
    simp only [bytesRow]
    rw [Array.getElem?_append_left (by simp; exact hlt)]
    simp only [Lib.strCells] at hj
    rw [← hj]
    simp

def textInts (s : ByteArray) : List Int := uvF 9 s.size ++ strInts s

end Go.Proofs.YthkppnmnjboiaaaDoor
