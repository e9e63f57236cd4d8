import Derived.Test.YtcbcabhjododoaaGreatFg16
import Derived.Lib.SlicesCompact
import Derived.Test.YtcbcabhjododoaaGreatFg01
import Derived.WalkKit
import Derived.ProofKit
import Derived.OpenShut
import Derived.ShutString
import Derived.ChangeOld
import Derived.Below
import Derived.WalkLawsBesides
import Derived.WalkSpells
import Derived.Outline
import Derived.Laws.BitsAllLaws
set_option linter.unusedVariables false
set_option linter.unusedSimpArgs false
set_option maxRecDepth 100000
set_option maxHeartbeats 40000000
namespace Go.Proofs.YtcbcabhjododoaaGreat
open Go.ChangeShapes Go.WideShapes Go.ChangeAt Go.RowKit Go.Maps Go.Sort Go.Lib Go.Shelf
noncomputable def rV (l : List Lf) (p : List ByteArray) : Nat → List ByteArray
 | 0 => []
 | k + 1 => if yes ((gL l k).fl = false ∧ (gL l k).p = p) = true then rV l p k ++ [(gL l k).v] else rV l p k
theorem rV_mem {l : List Lf} {p : List ByteArray} {s : ByteArray} : ∀ {k : Nat}, s ∈ rV l p k ↔ ∃ j, j < k ∧ (gL l j).fl = false ∧ (gL l j).p = p ∧ (gL l j).v = s
 | 0 => by simp [rV]
 | k + 1 => by
  have ih := rV_mem (l := l) (p := p) (s := s) (k := k)
  simp only [rV]
  by_cases e : (gL l k).fl = false ∧ (gL l k).p = p
  ·rw [if_pos (yes_t e), List.mem_append, ih, List.mem_singleton]
   constructor
   ·rintro (⟨j, hj, r⟩ | r)
    ·exact ⟨j, by omega, r⟩
    ·exact ⟨k, by omega, e.1, e.2, r.symm⟩
   ·rintro ⟨j, hj, r1, r2, r3⟩
    by_cases ej : j = k
    ·subst ej; exact .inr r3.symm
    ·exact .inl ⟨j, by omega, r1, r2, r3⟩
  ·rw [if_neg (by rw [yes_f e]; simp), ih]
   constructor
   ·rintro ⟨j, hj, r⟩; exact ⟨j, by omega, r⟩
   ·rintro ⟨j, hj, r1, r2, r3⟩
    by_cases ej : j = k
    ·subst ej; exact absurd ⟨r1, r2⟩ e
    ·exact ⟨j, by omega, r1, r2, r3⟩
theorem Mk_val {l : List Lf} {p : List Ky} {d : Dt} {s : ByteArray} : ∀ {k : Nat}, Dis l k → (Mk l k p d = some s ↔ ∃ j, j < k ∧ Way (gL l j) = p ∧ ((gL l j).r, (gL l j).q) = d ∧ (gL l j).v = s)
 | 0, _ => ⟨fun h => by simp [Mk] at h, fun ⟨j, hj, _⟩ => by omega⟩
 | k + 1, hd => by
  have ih := Mk_val (l := l) (p := p) (d := d) (s := s) (k := k) (fun i hi j hj => hd i (by omega) j hj)
  simp only [Mk]
  by_cases e : p = wayOf (gL l k).p (kd (gL l k).fl)
  ·rw [e, updM_same, ← e]
   by_cases e2 : d = ((gL l k).r, (gL l k).q)
   ·rw [e2, updF_same]
    constructor
    ·intro h; injection h with h; exact ⟨k, by omega, e.symm, rfl, h⟩
    ·rintro ⟨j, hj, r1, r2, r3⟩
     by_cases ej : j = k
     ·subst ej; rw [r3]
     ·have := hd k (by omega) j (by omega)
      exact absurd ⟨congrArg Prod.fst r2, congrArg Prod.snd r2⟩ this
   ·rw [updF_other _ _ e2, ih]
    constructor
    ·rintro ⟨j, hj, r⟩; exact ⟨j, by omega, r⟩
    ·rintro ⟨j, hj, r1, r2, r3⟩
     by_cases ej : j = k
     ·subst ej; exact absurd r2.symm e2
     ·exact ⟨j, by omega, r1, r2, r3⟩
  ·rw [updM_other _ _ _ e, ih]
   constructor
   ·rintro ⟨j, hj, r⟩; exact ⟨j, by omega, r⟩
   ·rintro ⟨j, hj, r1, r2, r3⟩
    by_cases ej : j = k
    ·subst ej; exact absurd r1.symm e
    ·exact ⟨j, by omega, r1, r2, r3⟩
end Go.Proofs.YtcbcabhjododoaaGreat
namespace Go.Proofs.YtcbcabhjododoaaGreat
open Go.ChangeShapes Go.WideShapes Go.ChangeAt Go.RowKit
end Go.Proofs.YtcbcabhjododoaaGreat
