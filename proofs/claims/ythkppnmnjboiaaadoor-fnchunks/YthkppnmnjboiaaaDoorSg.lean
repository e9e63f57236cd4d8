import Derived.Test.YthkppnmnjboiaaaDoorByt
import Derived.Laws.IdiomStrings
namespace Go.Proofs.YthkppnmnjboiaaaDoor
open Go.ChangeShapes Go.WideShapes Go.ChangeAt Go.RowKit
set_option linter.unusedVariables false
set_option linter.unusedSimpArgs false

def strG (f : Nat → Int) (p L : Nat) : ByteArray := ⟨((List.range L).map fun i => UInt8.ofNat (f (p + i)).toNat).toArray⟩
theorem strG_conv {w : World} {b off L cap : Nat} {f : Nat → Int} (p : Nat) (hf : Byt f) (hc : ∀ i, i < L → w.cell? ⟨b, off + i, none⟩ = some (.int .u8 (f (p + i)))) :
    (convert 22 9 (.slice (some ⟨b, off, none⟩) L cap)).run Tryd.prog w = .ok (.string (strG f p L)) w := by
  have hl : ((List.range L).map fun i => UInt8.ofNat (f (p + i)).toNat).length = L := by simp
  have := run_convert_bytes_back (P := Tryd.prog) w 22 9 5 ⟨b, off, none⟩ cap ((List.range L).map fun i => UInt8.ofNat (f (p + i)).toNat) Tryd.underlying22 Tryd.underlying5 Tryd.underlying9 (fun j hj => by
    have hj' : j < L := by simpa using hj
    have e : (Addr.add ⟨b, off, none⟩ j) = ⟨b, off + j, none⟩ := by
      by_cases h0 : j = 0
      · subst h0; simp [Addr.add]
      · simp [Addr.add, h0]
    rw [e, hc j hj']
    have := hf (p + j)
    simp only [List.getElem_map, List.getElem_range, Option.some.injEq, Value.int.injEq, true_and]
    have h2 : (UInt8.ofNat (f (p + j)).toNat).toNat = (f (p + j)).toNat % 256 := by simp
    rw [h2]; omega)
  rw [hl] at this
  exact this
theorem strG_eq {f g : Nat → Int} (hf : Byt f) (hg : Byt g) {p q L M : Nat} : strG f p L = strG g q M ↔ L = M ∧ ∀ i, i < L → f (p + i) = g (q + i) := by
  constructor
  · intro h
    have h1 : ((List.range L).map fun i => UInt8.ofNat (f (p + i)).toNat) = ((List.range M).map fun i => UInt8.ofNat (g (q + i)).toNat) := by
      have := congrArg (fun b : ByteArray => b.data.toList) h
      simpa [strG] using this
    have hl : L = M := by have := congrArg List.length h1; simpa using this
    subst hl
    refine ⟨rfl, fun i hi => ?_⟩
    have h2 := congrArg (fun l : List UInt8 => (l.getD i 0).toNat) h1
    simp [List.getD, hi] at h2
    have := hf (p + i)
    have := hg (q + i)
    omega
  · rintro ⟨rfl, h⟩
    unfold strG
    congr 2
    refine List.map_congr_left (fun i hi => ?_)
    rw [h i (by simpa using hi)]
end Go.Proofs.YthkppnmnjboiaaaDoor
