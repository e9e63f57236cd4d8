import Derived.Test.YthkppnmnjboiaaaDoorFp
import Derived.Test.YthkppnmnjboiaaaDoorUvm
namespace Go.Proofs.YthkppnmnjboiaaaDoor
open Go.ChangeShapes Go.WideShapes Go.ChangeAt Go.RowKit
set_option linter.unusedVariables false
set_option linter.unusedSimpArgs false

noncomputable def cM (f : Nat → Int) (n p : Nat) : Nat := (cnt_ex f n p).choose
theorem cM_spec (f : Nat → Int) (n p : Nat) : Cnt f n p (cM f n p) := (cnt_ex f n p).choose_spec

noncomputable def lenX (f : Nat → Int) (n : Nat) : Nat × Int × Nat := gX f n (cM f n 3) 3

noncomputable def headF (f : Nat → Int) (n : Nat) : Nat × Nat × Nat :=
  if 1 ≤ n ∧ f 0 ≠ 199 then (1, 0, 0) else
  if 2 ≤ n ∧ f 1 ≠ 1 then (2, 0, 0) else
  if n < 3 then (0, 0, 0) else
  if f 2 < 1 ∨ 3 < f 2 then (3, 0, 0) else
  if (lenX f n).2.2 = 1 then (0, 0, 0) else
  if (lenX f n).2.2 ≠ 0 ∨ 4000 < (lenX f n).1 then (4, 0, 0) else
  (0, (lenX f n).2.1.toNat, (lenX f n).1)

theorem headF_ok {f : Nat → Int} (hf : Byt f) {n at' l : Nat} (h : headF f n = (0, at', l)) (ha : at' ≠ 0) :
    3 ≤ n ∧ f 0 = 199 ∧ f 1 = 1 ∧ 1 ≤ f 2 ∧ f 2 ≤ 3 ∧ l ≤ 4000 ∧ at' ≤ n ∧ at' = 3 + (uvF 9 l).length ∧ uvF 9 l = (List.range (uvF 9 l).length).map (fun i => f (3 + i)) := by
  unfold headF at h
  split at h
  · simp at h
  rename_i h0
  split at h
  · simp at h
  rename_i h1
  split at h
  · simp at h; omega
  rename_i h2
  split at h
  · simp at h
  rename_i h3
  split at h
  · simp at h; omega
  rename_i h4
  split at h
  · simp at h
  rename_i h5
  have hc : (lenX f n).2.2 = 0 := by
    by_cases hc : (lenX f n).2.2 = 0
    · exact hc
    · exact absurd (.inl hc) h5
  obtain ⟨p, hp, hpn, h64, hA, hU⟩ := gX_zero hf (by simpa using cM_spec f n 3) hc
  have hp3 : p = 3 := by omega
  subst hp3
  injection h with _ h
  injection h with e1 e2
  have hl : (uvF 9 l).length = cM f n 3 + 1 := by rw [← e2]; show (uvF 9 (lenX f n).1).length = _; unfold lenX; rw [hU]; simp
  have hA' : (lenX f n).2.1 = ((3 + cM f n 3 + 1 : Nat) : Int) := hA
  have hl4 : ¬ 4000 < (lenX f n).1 := fun hh => h5 (.inr hh)
  refine ⟨by omega, ?_, ?_, by omega, by omega, by omega, ?_, ?_, ?_⟩
  · by_cases hh : f 0 = 199
    · exact hh
    · exact absurd ⟨by omega, hh⟩ h0
  · by_cases hh : f 1 = 1
    · exact hh
    · exact absurd ⟨by omega, hh⟩ h1
  · rw [← e1, hA']; simp; omega
  · rw [← e1, hA', hl]; simp; omega
  · rw [hl, ← e2]; exact hU

theorem crcI_congr {f g : Nat → Int} : ∀ k, (∀ i, i < k → f i = g i) → crcI f k = crcI g k
  | 0, _ => rfl
  | k + 1, h => by
    show citer 8 (crcI f k ^^^ (f k).toNat) = citer 8 (crcI g k ^^^ (g k).toNat)
    rw [crcI_congr k (fun i hi => h i (by omega)), h k (by omega)]
theorem range_split (f : Nat → Int) (a b : Nat) : (List.range (a + b)).map f = (List.range a).map f ++ (List.range b).map (fun i => f (a + i)) := by
  rw [List.range_add, List.map_append, List.map_map]
  rfl

theorem preF_read {f : Nat → Int} (hf : Byt f) {n at' l : Nat} (h : headF f n = (0, at', l)) (ha : at' ≠ 0) : preF (f 2) (fun i => f (at' + i)) l = (List.range (at' + l)).map f := by
  obtain ⟨h3, e0, e1, _, _, _, _, hat, hU⟩ := headF_ok hf h ha
  rw [range_split f at' l]
  unfold preF payl
  congr 1
  have : (List.range at').map f = (List.range 3).map f ++ (List.range (uvF 9 l).length).map (fun i => f (3 + i)) := by
    rw [← range_split f 3 (uvF 9 l).length, ← hat]
  rw [this, ← hU]
  congr 1
  show [199, 1, f 2] = [f 0, f 1, f 2]
  rw [e0, e1]

noncomputable def sumX (f : Nat → Int) (k : Nat) : Int := crcEnd (crcI f k : Nat)
theorem frB_read {f : Nat → Int} (hf : Byt f) {n at' l : Nat} (h : headF f n = (0, at', l)) (ha : at' ≠ 0) : frB (f 2) (fun i => f (at' + i)) l = (List.range (at' + l)).map f ++ sum4 (sumX f (at' + l)) := by
  unfold frB
  rw [preF_read hf h ha]
  have hl : ((List.range (at' + l)).map f).length = at' + l := by simp
  rw [hl]
  congr 2
  unfold sumX
  congr 2
  refine crcI_congr _ (fun i hi => ?_)
  simp [gz, List.getD, hi]
def sumOk (f : Nat → Int) (k : Nat) (c : Int) : Prop := f k = c / 16777216 ∧ f (k + 1) = c / 65536 % 256 ∧ f (k + 2) = c / 256 % 256 ∧ f (k + 3) = c % 256
instance (f : Nat → Int) (k : Nat) (c : Int) : Decidable (sumOk f k c) := by unfold sumOk; exact inferInstance

noncomputable def firstF (f : Nat → Int) (n : Nat) : Nat × Nat :=
  if (headF f n).1 ≠ 0 then ((headF f n).1, 0) else
  if (headF f n).2.1 = 0 ∨ n < (headF f n).2.1 + (headF f n).2.2 + 4 then (0, 0) else
  if sumOk f ((headF f n).2.1 + (headF f n).2.2) (sumX f ((headF f n).2.1 + (headF f n).2.2)) then (0, (headF f n).2.1 + (headF f n).2.2 + 4) else (5, 0)
theorem getD_app_r {l r : List Int} {i : Nat} (h : l.length ≤ i) : (l ++ r).getD i 0 = r.getD (i - l.length) 0 := by
  simp [List.getD, List.getElem?_append_right h]
theorem getD_app_l {l r : List Int} {i : Nat} (h : i < l.length) : (l ++ r).getD i 0 = l.getD i 0 := by
  simp [List.getD, List.getElem?_append_left h]
theorem sumOk_iff {f : Nat → Int} (hf : Byt f) {n at' l : Nat} (h : headF f n = (0, at', l)) (ha : at' ≠ 0) :
    sumOk f (at' + l) (sumX f (at' + l)) ↔ ∀ i, i < at' + l + 4 → gz (frB (f 2) (fun i => f (at' + i)) l) i = f i := by
  have hl : ((List.range (at' + l)).map f).length = at' + l := by simp
  rw [frB_read hf h ha]
  constructor
  · rintro ⟨q0, q1, q2, q3⟩ i hi
    unfold gz
    by_cases h1 : i < at' + l
    · rw [getD_app_l (by rw [hl]; exact h1)]; simp [List.getD, h1]
    · rw [getD_app_r (by rw [hl]; omega), hl]
      rcases (show i = at' + l ∨ i = at' + l + 1 ∨ i = at' + l + 2 ∨ i = at' + l + 3 by omega) with e | e | e | e <;> subst e
      · rw [Nat.sub_self]; exact q0.symm
      · rw [show at' + l + 1 - (at' + l) = 1 by omega]; exact q1.symm
      · rw [show at' + l + 2 - (at' + l) = 2 by omega]; exact q2.symm
      · rw [show at' + l + 3 - (at' + l) = 3 by omega]; exact q3.symm
  · intro hh
    have key : ∀ j, j < 4 → (sum4 (sumX f (at' + l))).getD j 0 = f (at' + l + j) := fun j hj => by
      have := hh (at' + l + j) (by omega)
      unfold gz at this
      rw [getD_app_r (by rw [hl]; omega), hl, show at' + l + j - (at' + l) = j by omega] at this
      exact this
    exact ⟨(key 0 (by omega)).symm, (key 1 (by omega)).symm, (key 2 (by omega)).symm, (key 3 (by omega)).symm⟩
end Go.Proofs.YthkppnmnjboiaaaDoor
