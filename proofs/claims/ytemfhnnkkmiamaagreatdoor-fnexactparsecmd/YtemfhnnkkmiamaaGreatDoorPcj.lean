import Derived.Test.YtemfhnnkkmiamaaGreatDoorPci
namespace Go.Proofs.YtemfhnnkkmiamaaGreatDoor
open Go.ChangeShapes Go.WideShapes Go.ChangeAt Go.RowKit
set_option linter.unusedVariables false
set_option linter.unusedSimpArgs false

theorem pcQ_none {W : List ByteArray} (h : (fmF (gS W 0)).1 < 0 ∨ (W.length : Int) ≠ 1 + (fmF (gS W 0)).1 + (fmF (gS W 0)).2.1 + pcPth W + (fmF (gS W 0)).2.2.2) : pcQ W = none := by
  unfold pcQ
  simp only []
  rw [if_pos h]
theorem find_one {α β : Type} (f : α → Option β) (a : α) : [a].findSome? f = f a := by
  simp only [List.findSome?]
  cases f a <;> rfl
theorem one_form (x : ByteArray) (xs : List ByteArray) (fs : List Nat) (r m p v : Int) (hq : fmF x = (r, m, p, v)) (hk : (x.toList == wKeys) = false) (hs : r + m + p + v = (fs.length : Int)) (he : ∀ ys : List ByteArray, ys.length = fs.length → pcQ (x :: ys) = fmR { Cm.no with w := x } fs ys) :
    [fs].findSome? (fun f => fmR { Cm.no with w := x } f xs) = pcQ (x :: xs) := by
  rw [find_one]
  by_cases h : xs.length = fs.length
  · rw [he xs h]
  · rw [fmR_len _ _ _ h, pcQ_none]
    right
    have g0 : gS (x :: xs) 0 = x := rfl
    have hp : pcPth (x :: xs) = p := by unfold pcPth; rw [g0, hk, hq]; rfl
    rw [hp, g0, hq, List.length_cons]
    simp only []
    omega
theorem len1 {α : Type} {l : List α} (h : l.length = 1) : ∃ a, l = [a] := by
  match l, h with
  | [a], _ => exact ⟨a, rfl⟩
theorem len2 {α : Type} {l : List α} (h : l.length = 2) : ∃ a b, l = [a, b] := by
  match l, h with
  | [a, b], _ => exact ⟨a, b, rfl⟩
theorem len3 {α : Type} {l : List α} (h : l.length = 3) : ∃ a b c, l = [a, b, c] := by
  match l, h with
  | [a, b, c], _ => exact ⟨a, b, c, rfl⟩
theorem len4 {α : Type} {l : List α} (h : l.length = 4) : ∃ a b c d, l = [a, b, c, d] := by
  match l, h with
  | [a, b, c, d], _ => exact ⟨a, b, c, d, rfl⟩
theorem pcI_words (x : ByteArray) (xs : List ByteArray) : (formsW x).findSome? (fun f => fmR { Cm.no with w := x } f xs) = pcQ (x :: xs) := by
  have ne {l : List UInt8} (h : (x.toList == l) = true) (hl : (l == wKeys) = false) : (x.toList == wKeys) = false := by
    have e : x.toList = l := by simpa using h
    rw [e]; exact hl
  by_cases h1 : (x.toList == wPut) = true
  · have hq : fmF x = (1, 0, 1, 1) := by unfold fmF; rw [if_pos h1]
    have hf : formsW x = [[0, 4, 5]] := by unfold formsW; rw [if_pos h1]
    have hk := ne h1 (by decide)
    rw [hf]
    refine one_form x xs _ _ _ _ _ hq hk rfl (fun ys hy => ?_)
    obtain ⟨a, b, c, rfl⟩ := len3 hy
    exact put_eq x a b c hq hk
  by_cases h2 : (x.toList == wKeys) = true
  · have e : x.toList = wKeys := by simpa using h2
    have hp : hasT wPth x = true := hasT_t (k := 5) (by decide) (by rw [e, Lib.toList_data]; rfl)
    have hq : fmF x = (1, 0, 1, 0) := by unfold fmF; rw [if_neg h1, if_pos hp]
    have hf : formsW x = [[0], [0, 4]] := by unfold formsW; rw [if_neg h1, if_pos h2]
    rw [hf]
    have g0 : gS (x :: xs) 0 = x := rfl
    by_cases l1 : xs.length = 1
    · obtain ⟨a, rfl⟩ := len1 l1
      rw [key1_eq x a hq h2]
      simp only [List.findSome?]
      rw [fmR_len _ [0, 4] [a] (by simp)]
      cases fmR { Cm.no with w := x } [0] [a] <;> rfl
    · have n1 := fmR_len { Cm.no with w := x } [0] xs l1
      by_cases l2 : xs.length = 2
      · obtain ⟨a, b, rfl⟩ := len2 l2
        rw [key2_eq x a b hq h2]
        simp only [List.findSome?]
        rw [n1]
        cases fmR { Cm.no with w := x } [0, 4] [a, b] <;> rfl
      · have n2 := fmR_len { Cm.no with w := x } [0, 4] xs l2
        simp only [List.findSome?]
        rw [n1, n2, pcQ_none]
        right
        have hpt : pcPth (x :: xs) = 1 := by
          unfold pcPth
          rw [g0, h2, decide_eq_false (by rw [List.length_cons]; omega), hq]; rfl
        rw [hpt, g0, hq, List.length_cons]
        simp only []
        omega
  have hk : (x.toList == wKeys) = false := by simpa using h2
  by_cases h3 : hasT wPth x = true
  · have hq : fmF x = (1, 0, 1, 0) := by unfold fmF; rw [if_neg h1, if_pos h3]
    have hf : formsW x = [[0, 4]] := by unfold formsW; rw [if_neg h1, if_neg h2, if_pos h3]
    rw [hf]
    refine one_form x xs _ _ _ _ _ hq hk rfl (fun ys hy => ?_)
    obtain ⟨a, b, rfl⟩ := len2 hy
    exact pth_eq x a b hq hk
  by_cases h4 : (x.toList == wSum) = true
  · have hq : fmF x = (1, 0, 0, 0) := by unfold fmF; rw [if_neg h1, if_neg h3, if_pos h4]
    have hf : formsW x = [[0]] := by unfold formsW; rw [if_neg h1, if_neg h2, if_neg h3, if_pos h4]
    rw [hf]
    refine one_form x xs _ _ _ _ _ hq hk rfl (fun ys hy => ?_)
    obtain ⟨a, rfl⟩ := len1 hy
    exact one_eq x a hq hk
  by_cases h5 : hasT wPip x = true
  · have hq : fmF x = (2, 0, 0, 0) := by unfold fmF; rw [if_neg h1, if_neg h3, if_neg h4, if_pos h5]
    have hf : formsW x = [[0, 1]] := by unfold formsW; rw [if_neg h1, if_neg h2, if_neg h3, if_neg h4, if_pos h5]
    rw [hf]
    refine one_form x xs _ _ _ _ _ hq hk rfl (fun ys hy => ?_)
    obtain ⟨a, b, rfl⟩ := len2 hy
    exact two_eq x a b hq hk
  by_cases h6 : (x.toList == wDel) = true
  · have hq : fmF x = (2, 1, 0, 0) := by unfold fmF; rw [if_neg h1, if_neg h3, if_neg h4, if_neg h5, if_pos h6]
    have hf : formsW x = [[0, 1, 2]] := by unfold formsW; rw [if_neg h1, if_neg h2, if_neg h3, if_neg h4, if_neg h5, if_pos h6]
    rw [hf]
    refine one_form x xs _ _ _ _ _ hq hk rfl (fun ys hy => ?_)
    obtain ⟨a, b, c, rfl⟩ := len3 hy
    exact del_eq x a b c hq hk
  by_cases h7 : (x.toList == wFlp) = true
  · have hq : fmF x = (2, 2, 0, 0) := by unfold fmF; rw [if_neg h1, if_neg h3, if_neg h4, if_neg h5, if_neg h6, if_pos h7]
    have hf : formsW x = [[0, 1, 2, 3]] := by unfold formsW; rw [if_neg h1, if_neg h2, if_neg h3, if_neg h4, if_neg h5, if_neg h6, if_pos h7]
    rw [hf]
    refine one_form x xs _ _ _ _ _ hq hk rfl (fun ys hy => ?_)
    obtain ⟨a, b, c, d, rfl⟩ := len4 hy
    exact flp_eq x a b c d hq hk
  have hq : fmF x = (-1, 0, 0, 0) := by unfold fmF; rw [if_neg h1, if_neg h3, if_neg h4, if_neg h5, if_neg h6, if_neg h7]
  have hf : formsW x = [] := by unfold formsW; rw [if_neg h1, if_neg h2, if_neg h3, if_neg h4, if_neg h5, if_neg h6, if_neg h7]
  rw [hf, pcQ_none (.inl (by rw [show gS (x :: xs) 0 = x from rfl, hq]; decide))]
  rfl

theorem pcI_eq (s : ByteArray) : pcI s = pcS s := by
  rw [pcS_Q]
  unfold pcI
  have h := cut_ne 32 s
  cases hW : cutW 32 s with
  | nil => rw [hW] at h; simp at h
  | cons x xs => exact pcI_words x xs
end Go.Proofs.YtemfhnnkkmiamaaGreatDoor
