import Derived.Test.YtbocofbigjbhgaaGreatNg16
import Derived.Lib.SlicesCompact
import Derived.Test.YtbocofbigjbhgaaGreatNg01
import Derived.WalkKit
import Derived.ProofKit
import Derived.OpenShut
import Derived.ShutString
import Derived.ChangeOld
import Derived.Below
import Derived.WalkLawsBesides
import Derived.WalkSpells
import Derived.Outline
import Derived.Laws.BitsAllLaws
set_option linter.unusedVariables false
set_option linter.unusedSimpArgs false

namespace Go.Proofs.YtbocofbigjbhgaaGreat
open Go.ChangeShapes Go.WideShapes Go.ChangeAt Go.RowKit Go.Maps Go.Sort Go.Lib Go.Shelf
def OnceOf (vs ts : List ByteArray) : Prop := ts.Pairwise (fun x y => cmpS x y < 0) ∧ ∀ s, s ∈ ts ↔ s ∈ vs
theorem OnceOf.uniq {vs us ts rs : List ByteArray} (h : OnceOf vs ts) (h' : OnceOf us rs) (e : ∀ s, s ∈ vs ↔ s ∈ us) : ts = rs :=
  CmpT.str.uniq h.1 h'.1 fun s => by rw [h.2, h'.2, e]
theorem Mk_val {l : List Lf} {p : List Ky} {d : Dt} {s : ByteArray} : ∀ {k : Nat}, Dis l k → (Mk l k p d = some s ↔ ∃ j, j < k ∧ Way (gL l j) = p ∧ ((gL l j).r, (gL l j).q) = d ∧ (gL l j).v = s)
  | 0, _ => ⟨fun h => by simp [Mk] at h, fun ⟨j, hj, _⟩ => by omega⟩
  | k + 1, hd => by
    have ih := Mk_val (l := l) (p := p) (d := d) (s := s) (k := k) (fun i hi j hj => hd i (by omega) j hj)
    simp only [Mk]
    by_cases e : p = wayOf (gL l k).p (kd (gL l k).fl)
    · rw [e, updM_same, ← e]
      by_cases e2 : d = ((gL l k).r, (gL l k).q)
      · rw [e2, updF_same]
        constructor
        · intro h; injection h with h; exact ⟨k, by omega, e.symm, rfl, h⟩
        · rintro ⟨j, hj, r1, r2, r3⟩
          by_cases ej : j = k
          · subst ej; rw [r3]
          · have := hd k (by omega) j (by omega)
            exact absurd ⟨congrArg Prod.fst r2, congrArg Prod.snd r2⟩ this
      · rw [updF_other _ _ e2, ih]
        constructor
        · rintro ⟨j, hj, r⟩; exact ⟨j, by omega, r⟩
        · rintro ⟨j, hj, r1, r2, r3⟩
          by_cases ej : j = k
          · subst ej; exact absurd r2.symm e2
          · exact ⟨j, by omega, r1, r2, r3⟩
    · rw [updM_other _ _ _ e, ih]
      constructor
      · rintro ⟨j, hj, r⟩; exact ⟨j, by omega, r⟩
      · rintro ⟨j, hj, r1, r2, r3⟩
        by_cases ej : j = k
        · subst ej; exact absurd r1.symm e
        · exact ⟨j, by omega, r1, r2, r3⟩
end Go.Proofs.YtbocofbigjbhgaaGreat

namespace Go.Proofs.YtbocofbigjbhgaaGreat
open Go.ChangeShapes Go.WideShapes Go.ChangeAt Go.RowKit
def Seg (w : World) (a : Option Addr) (n : Nat) (f : Nat → Int) : Prop :=
  n = 0 ∨ ∃ b off, a = some ⟨b, off, none⟩ ∧ b < w.heap.size ∧ ∀ i, i < n → w.cell? ⟨b, off + i, none⟩ = some (.int .u8 (f i))
theorem Seg.below {w w' : World} {a : Option Addr} {n : Nat} {f : Nat → Int} (h : Seg w a n f) (hb : Below w.heap.size w w') : Seg w' a n f := by
  rcases h with h | ⟨b, off, rfl, hlt, hc⟩
  · exact .inl h
  · exact .inr ⟨b, off, rfl, Nat.lt_of_lt_of_le hlt hb.size, fun i hi => (hb.cell (p := ⟨b, off + i, none⟩) hlt).trans (hc i hi)⟩
end Go.Proofs.YtbocofbigjbhgaaGreat

namespace Go.Proofs.YtbocofbigjbhgaaGreat
open Go.ChangeShapes Go.WideShapes Go.ChangeAt Go.RowKit
def Own (w : World) (B : Nat) (v : Value) (zs : List Int) : Prop := w.ownsRow B 5 1 v zs.length (zs.map (Value.int .u8))
end Go.Proofs.YtbocofbigjbhgaaGreat

