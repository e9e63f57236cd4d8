import Derived.Test.YtbimcammjohaoadDoorApx
namespace Go.Proofs.YtbimcammjohaoadDoor
open Go.ChangeShapes Go.WideShapes Go.ChangeAt Go.RowKit Go.Maps Go.Sort
set_option linter.unusedVariables false
set_option linter.unusedSimpArgs false

theorem row_iter {w : World} {B b r n c : Nat} {e : TypeId} {s : Nat} {v : Value} {m : Nat} {xs : List Value} {D : DataW Value} {left : Lit → Bool} (h : w.ownsRow B e s v m xs) (hm : w.ranges Tryd.prog 3 rawR b r n D left c) : v.ownBlock = none ∨ v.ownBlock ≠ some r := by
  obtain ⟨_, h2⟩ := h
  rcases h2 with ⟨rfl, _⟩ | ⟨g, cap, cur, rfl, _, hg, _⟩
  · exact .inl rfl
  · refine .inr (fun e => ?_)
    obtain ⟨es, clock, since, seen, c0, _, _, _, _, hb, _⟩ := hm
    have e : g = r := by simpa [Value.ownBlock] using e
    rw [e, hb] at hg
    cases hg
theorem In_ne {l : List (Int × Int)} {x : Int} (h : In l x) : l ≠ [] := fun e => by rw [e] at h; exact In_nil h
theorem Srt.inh {l : List (Int × Int)} (h : Srt l) (hne : l ≠ []) : ∃ x, In l x := by
  cases l with
  | nil => exact absurd rfl hne
  | cons p t => exact ⟨p.1, p, List.mem_cons_self, Int.le_refl _, (h.2 p List.mem_cons_self).2.1⟩

structure UInv (La Lb L : Int → List (Int × Int)) (left : Int → Bool) : Prop where
  s : ∀ r, Srt (L r)
  done : ∀ r, left r = false → ∀ x, In (L r) x ↔ (In (La r) x ∨ In (Lb r) x)
  todo : ∀ r, left r = true → L r = La r
  len : ∀ r, (L r).length ≤ (La r).length + (Lb r).length

end Go.Proofs.YtbimcammjohaoadDoor
