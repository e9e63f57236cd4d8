import Derived.Test.YtdenbicnckkdfaaGreatMg19
namespace Go.Proofs.YtdenbicnckkdfaaGreat
open Go.ChangeShapes Go.WideShapes Go.ChangeAt Go.RowKit Go.Maps
set_option linter.unusedVariables false
set_option linter.unusedSimpArgs false

theorem ready2t {P : Program} {ops : Array Oper} {Q : Exit → Act → World → Prop} {md : Region.Mode} {S : World → Prop} {i j : Nat} {d d' : Option Tmp} {fuel : Nat} {listed : Array Bool} {a : Act} {w : World}
    (hd : ops[i]?.map (fun o => o.dst) = some d) (hd' : ops[j]?.map (fun o => o.dst) = some d') (hr : Region.ready md ops listed = [i, j])
    (h : ∀ o, ops[i]? = some o → o.dst = d → ∀ K' : Act → World → Prop, Shut (∀ a w, S w → (S w → wpAnyH P md ops Q S fuel (listed.setIfInBounds i true) a w) → K' a w) → if Region.wanted o (yielded ops a.tmps) = true then Oper.wp P o a w K' Q else K' (a.put o.dst undef) w)
    (h' : ∀ o, ops[j]? = some o → o.dst = d' → ∀ K' : Act → World → Prop, Shut (∀ a w, S w → (S w → wpAnyH P md ops Q S fuel (listed.setIfInBounds j true) a w) → K' a w) → if Region.wanted o (yielded ops a.tmps) = true then Oper.wp P o a w K' Q else K' (a.put o.dst undef) w) :
    wpAnyH P md ops Q S (fuel + 1) listed a w := by
  obtain ⟨o, ho, hod⟩ := Option.map_eq_some_iff.1 hd
  obtain ⟨o', ho', hod'⟩ := Option.map_eq_some_iff.1 hd'
  exact wpAnyH_ready hr (by simp) (AllReadyH.cons ho (h o ho hod) (AllReadyH.cons ho' (h' o' ho' hod') AllReadyH.nil))

def mF (o : Option (Nat × Nat)) : Option Nat := o.map Prod.fst
def mS (o : Option (Nat × Nat)) : Option Nat := o.map Prod.snd
theorem nodV_eq (o : Option (Nat × Nat)) : nodV o = .agg #[.map (mF o), .map (mS o)] := by cases o <;> rfl
theorem Tre.look {w : World} {B c : Nat} {N : List Ky → Option (Nat × Nat)} {M : List Ky → Dt → Option ByteArray} (h : Tre w B N M c) (p : List Ky) (y : Ky) {kl : Lit} (hk : keyOf Tryz.prog 125 (keyV y) = some kl) :
    (Instr.lookup 79 (.map (mF (N p))) (keyV y) false).run Tryz.prog w = .ok (.agg #[.map (mF (N (p ++ [y]))), .map (mS (N (p ++ [y])))]) w := by
  rw [← nodV_eq]
  cases e : N p with
  | some x => exact (h.kids p x e).look keyKeyed Tryz.underlying79 (zeroNode w) hk
  | none =>
    rw [h.up p y e]
    exact Maps.look_nil false keyKeyed Tryz.underlying79 (zeroNode w) hk

end Go.Proofs.YtdenbicnckkdfaaGreat

namespace Go.Proofs.YtdenbicnckkdfaaGreat
open Go.ChangeShapes Go.WideShapes Go.ChangeAt Go.RowKit Go.Maps
set_option linter.unusedVariables false
set_option linter.unusedSimpArgs false

theorem toList_inj {s t : ByteArray} (h : s.toList = t.toList) : s = t := by
  rw [ByteArray.toList_eq, ByteArray.toList_eq] at h
  exact bytes_inj h
theorem less_self : ∀ l : List UInt8, Op.bytesLess l l = false
  | [] => rfl
  | a :: l => by simp [Op.bytesLess, less_self l]
theorem cmpS_z {s t : ByteArray} : cmpS s t = 0 ↔ s = t := by
  unfold cmpS ltS eqS
  constructor
  · intro h
    split at h
    · cases h
    · split at h
      · rename_i e; exact toList_inj (by simpa using e)
      · cases h
  · rintro rfl
    rw [if_neg (by rw [less_self]; simp), if_pos (by simp)]
theorem cmpP_z : ∀ {p q : List ByteArray}, cmpP p q = 0 ↔ p = q
  | [], [] => by simp [cmpP]
  | [], _ :: _ => by simp [cmpP]
  | _ :: _, [] => by simp [cmpP]
  | s :: p, t :: q => by
    simp only [cmpP]
    by_cases e : cmpS s t = 0
    · rw [if_pos e, cmpP_z]
      have := cmpS_z.1 e
      subst this
      simp
    · rw [if_neg e]
      exact ⟨fun h => absurd h e, fun h => by injection h with h1 h2; exact absurd (cmpS_z.2 h1) e⟩

theorem Tre.len {w : World} {B c : Nat} {N : List Ky → Option (Nat × Nat)} {M : List Ky → Dt → Option ByteArray} (h : Tre w B N M c) (p : List Ky) :
    ∃ n : Nat, (∀ ty, (Builtin.len_ #[80] ty #[.map (mS (N p))]).run Tryz.prog w = .ok (.int .i64 n) w) ∧ (0 < n ↔ ∃ d, M p d ≠ none) := by
  cases e : N p with
  | some x =>
    obtain ⟨n, h1, _, h2⟩ := (h.marks p x e).len dotKeyed Tryz.underlying80
    exact ⟨n, h1, h2⟩
  | none =>
    refine ⟨0, fun ty => Maps.len_nil Tryz.underlying80 ty, ?_⟩
    rw [h.none' p e]
    simp

def FlagOn (l : List Lf) (p : List ByteArray) (k : Nat) : Prop := ∃ j, j < k ∧ (gL l j).fl = true ∧ (gL l j).p = p
theorem FlagOn.step {l : List Lf} {p : List ByteArray} {k : Nat} : FlagOn l p (k + 1) ↔ FlagOn l p k ∨ ((gL l k).fl = true ∧ (gL l k).p = p) := by
  constructor
  · rintro ⟨j, hj, r⟩
    by_cases e : j = k
    · subst e; exact .inr r
    · exact .inl ⟨j, by omega, r⟩
  · rintro (⟨j, hj, r⟩ | r)
    · exact ⟨j, by omega, r⟩
    · exact ⟨k, by omega, r⟩
def RfOk (R F T : Nat → Int) (n : Nat) (l : List Lf) (p : List ByteArray) : Prop := StOk R F T n l ∧ PthOk p ∧ FlagOn l p l.length

end Go.Proofs.YtdenbicnckkdfaaGreat
