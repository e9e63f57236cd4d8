import Derived.Test.YtemfhnnkkmiamaaGreatDoorPcf
namespace Go.Proofs.YtemfhnnkkmiamaaGreatDoor
open Go.ChangeShapes Go.WideShapes Go.ChangeAt Go.RowKit
set_option linter.unusedVariables false
set_option linter.unusedSimpArgs false

def numR (s : ByteArray) (d most : Int) : Option Int := if 0 ≤ decF s d ∧ decF s d ≤ most then some (decF s d) else none

def pthR (s : ByteArray) : Option (List ByteArray) := if hasT (cutW 47 s) ⟨#[]⟩ = true then none else some (cutW 47 s)

def wdR (c : Cm) (f : Nat) (x : ByteArray) : Option Cm :=
  match f with
  | 0 => (numR x 1 7).map fun n => { c with a := n }
  | 1 => (numR x 1 7).map fun n => { c with b := n }
  | 2 => (numR x 5 99999).map fun n => { c with n := n }
  | 3 => (numR x 5 255).map fun n => { c with x := n }
  | 4 => (pthR x).map fun p => { c with p := p }
  | 5 => if (x.toList == []) = true then none else some { c with v := x }
  | _ => none

def fmR (c : Cm) : List Nat → List ByteArray → Option Cm
  | [], [] => some c
  | f :: fs, x :: xs => (wdR c f x).bind fun c => fmR c fs xs
  | _, _ => none

def formsW (x : ByteArray) : List (List Nat) :=
  if x.toList == wPut then [[0, 4, 5]] else if x.toList == wKeys then [[0], [0, 4]] else if hasT wPth x then [[0, 4]] else if x.toList == wSum then [[0]] else if hasT wPip x then [[0, 1]] else if x.toList == wDel then [[0, 1, 2]] else if x.toList == wFlp then [[0, 1, 2, 3]] else []

def pcI (s : ByteArray) : Option Cm := (formsW (gS (cutW 32 s) 0)).findSome? fun f => fmR { Cm.no with w := gS (cutW 32 s) 0 } f (cutW 32 s).tail
theorem dec_lo (s : ByteArray) (d : Int) : -1 ≤ decF s d := by
  unfold decF
  split
  · rename_i h
    simp only [Bool.and_eq_true] at h
    have := (dV_fold s.data.toList 0 1 h.1 (by omega) (by omega)).1
    show -1 ≤ dV s.data.toList
    unfold dV
    omega
  · omega
theorem dec_hi (s : ByteArray) (d : Int) (hd : d ≤ 5) : decF s d ≤ 99999 := by
  unfold decF
  split
  · rename_i h
    simp only [Bool.and_eq_true, decide_eq_true_eq] at h
    exact (dV_bd s.data.toList h.1 (by
      have e : s.data.toList.length = s.size := by simp
      omega)).2
  · omega
theorem fmR_len (c : Cm) (fs : List Nat) (xs : List ByteArray) (h : xs.length ≠ fs.length) : fmR c fs xs = none := by
  induction fs generalizing c xs with
  | nil => cases xs with
    | nil => exact absurd rfl h
    | cons x xs => rfl
  | cons f fs ih => cases xs with
    | nil => rfl
    | cons x xs =>
      unfold fmR
      cases wdR c f x with
      | none => rfl
      | some c => exact ih c xs (by simpa using h)
theorem num_some {s : ByteArray} {d most : Int} (h1 : ¬ decF s d < 0) (h2 : ¬ decF s d > most) : numR s d most = some (decF s d) := if_pos ⟨by omega, by omega⟩
theorem num_none {s : ByteArray} {d most : Int} (h : decF s d < 0 ∨ decF s d > most) : numR s d most = none := if_neg (by omega)
end Go.Proofs.YtemfhnnkkmiamaaGreatDoor
