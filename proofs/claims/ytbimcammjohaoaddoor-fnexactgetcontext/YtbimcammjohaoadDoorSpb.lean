import Derived.Test.YtbimcammjohaoadDoorWg
namespace Go.Proofs.YtbimcammjohaoadDoor
open Go.ChangeShapes Go.WideShapes Go.ChangeAt Go.RowKit Go.Maps
set_option linter.unusedVariables false
set_option linter.unusedSimpArgs false

def sF (l : List (Int × Int)) (i : Nat) : Int := (l.getD i (0, 0)).1
def sT (l : List (Int × Int)) (i : Nat) : Int := (l.getD i (0, 0)).2
def loK (l : List (Int × Int)) : Nat → Int
  | 0 => 1
  | k + 1 => sT l k + 2
def spK (l : List (Int × Int)) : Nat → List Int
  | 0 => []
  | k + 1 => spK l k ++ (uvF 9 (sF l k - loK l k).toNat ++ uvF 9 (sT l k - sF l k).toNat)
def grpB (l : List (Int × Int)) : List Int := uvF 9 l.length ++ spK l l.length

theorem spK_len (l : List (Int × Int)) : ∀ k, (spK l k).length ≤ 20 * k
  | 0 => by simp [spK]
  | k + 1 => by
    have := spK_len l k
    have h1 := (uvF_len 9 (sF l k - loK l k).toNat).1
    have h2 := (uvF_len 9 (sT l k - sF l k).toNat).1
    simp only [spK, List.length_append]
    omega
theorem grpB_len (l : List (Int × Int)) : (grpB l).length ≤ 10 + 20 * l.length := by
  have h1 := (uvF_len 9 l.length).1
  have := spK_len l l.length
  simp only [grpB, List.length_append]
  omega

theorem srt_at {l : List (Int × Int)} (h : Srt l) {k : Nat} (hk : k < l.length) : 1 ≤ loK l k ∧ loK l k ≤ sF l k ∧ sF l k ≤ sT l k ∧ sT l k ≤ 1000000000 := by
  have e : l.getD k (0, 0) = l[k] := by simp [List.getD, hk]
  have h1 := h.2 _ (List.getElem_mem hk)
  rw [← e] at h1
  have h2 : loK l k ≤ sF l k ∧ 1 ≤ loK l k := by
    cases k with
    | zero => exact ⟨h1.1, Int.le_refl _⟩
    | succ k =>
      have h3 := srt_get h (show k < k + 1 by omega) hk
      have e2 : l.getD k (0, 0) = l[k] := by simp [List.getD, show k < l.length by omega]
      have h4 := h.2 _ (List.getElem_mem (show k < l.length by omega))
      rw [← e2] at h4
      show (l.getD k (0, 0)).2 + 2 ≤ (l.getD (k + 1) (0, 0)).1 ∧ 1 ≤ (l.getD k (0, 0)).2 + 2
      exact ⟨by omega, by omega⟩
  exact ⟨h2.2, h2.1, h1.2.1, h1.2.2⟩

theorem wrapU (x : Int) (h0 : 0 ≤ x) (h1 : x ≤ 1000000000) : IntKind.u64.wrap x = x := by
  unfold IntKind.wrap
  simp [IntKind.bits, IntKind.signed]
  omega

end Go.Proofs.YtbimcammjohaoadDoor
