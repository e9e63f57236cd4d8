import Derived.Test.YtkhicohhahaahaaTrg
namespace Go.Proofs.Ytkhicohhahaahaa
open Go.ChangeShapes Go.WideShapes Go.ChangeAt Go.RowKit Go.Maps
set_option linter.unusedVariables false
set_option linter.unusedSimpArgs false

theorem toList_inj {s t : ByteArray} (h : s.toList = t.toList) : s = t := by
  rw [ByteArray.toList_eq, ByteArray.toList_eq] at h
  exact bytes_inj h
theorem less_self : ∀ l : List UInt8, Op.bytesLess l l = false
  | [] => rfl
  | a :: l => by simp [Op.bytesLess, less_self l]
theorem cmpS_z {s t : ByteArray} : cmpS s t = 0 ↔ s = t := by
  unfold cmpS ltS eqS
  constructor
  · intro h
    split at h
    · cases h
    · split at h
      · rename_i e; exact toList_inj (by simpa using e)
      · cases h
  · rintro rfl
    rw [if_neg (by rw [less_self]; simp), if_pos (by simp)]
theorem cmpP_z : ∀ {p q : List ByteArray}, cmpP p q = 0 ↔ p = q
  | [], [] => by simp [cmpP]
  | [], _ :: _ => by simp [cmpP]
  | _ :: _, [] => by simp [cmpP]
  | s :: p, t :: q => by
    simp only [cmpP]
    by_cases e : cmpS s t = 0
    · rw [if_pos e, cmpP_z]
      have := cmpS_z.1 e
      subst this
      simp
    · rw [if_neg e]
      exact ⟨fun h => absurd h e, fun h => by injection h with h1 h2; exact absurd (cmpS_z.2 h1) e⟩

theorem Tre.len {w : World} {B c : Nat} {N : List Ky → Option (Nat × Nat)} {M : List Ky → Dt → Option ByteArray} (h : Tre w B N M c) (p : List Ky) :
    ∃ n : Nat, (∀ ty, (Builtin.len_ #[57] ty #[.map (mS (N p))]).run Try.prog w = .ok (.int .i64 n) w) ∧ (0 < n ↔ ∃ d, M p d ≠ none) := by
  cases e : N p with
  | some x =>
    obtain ⟨n, h1, _, h2⟩ := (h.marks p x e).len dotKeyed Try.underlying57
    exact ⟨n, h1, h2⟩
  | none =>
    refine ⟨0, fun ty => Maps.len_nil Try.underlying57 ty, ?_⟩
    rw [h.none' p e]
    simp

def FlagOn (l : List Lf) (p : List ByteArray) (k : Nat) : Prop := ∃ j, j < k ∧ (gL l j).fl = true ∧ (gL l j).p = p
theorem FlagOn.step {l : List Lf} {p : List ByteArray} {k : Nat} : FlagOn l p (k + 1) ↔ FlagOn l p k ∨ ((gL l k).fl = true ∧ (gL l k).p = p) := by
  constructor
  · rintro ⟨j, hj, r⟩
    by_cases e : j = k
    · subst e; exact .inr r
    · exact .inl ⟨j, by omega, r⟩
  · rintro (⟨j, hj, r⟩ | r)
    · exact ⟨j, by omega, r⟩
    · exact ⟨k, by omega, r⟩
def RfOk (R F T : Nat → Int) (n : Nat) (l : List Lf) (p : List ByteArray) : Prop := StOk R F T n l ∧ PthOk p ∧ FlagOn l p l.length

end Go.Proofs.Ytkhicohhahaahaa
