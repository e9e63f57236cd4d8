import Derived.Test.YtemfhnnkkmiamaaGreatDoorPce
namespace Go.Proofs.YtemfhnnkkmiamaaGreatDoor
open Go.ChangeShapes Go.WideShapes Go.ChangeAt Go.RowKit
set_option linter.unusedVariables false
set_option linter.unusedSimpArgs false

structure BxL (w : World) (b : Nat) (vs : List Value) : Prop where
  c : ∀ i v, vs[i]? = some v → w.cell? ⟨b, i, none⟩ = some v
  f : ∀ i, w.frozen? ⟨b, i, none⟩ = false
  lt : b < w.heap.size
theorem BxL.below {w w' : World} {b : Nat} {vs : List Value} (h : BxL w b vs) (hb : Below w.heap.size w w') : BxL w' b vs :=
  ⟨fun i v hv => (hb.cell (p := ⟨b, i, none⟩) h.lt).trans (h.c i v hv), fun i => (hb.frozen (p := ⟨b, i, none⟩) h.lt).trans (h.f i), Nat.lt_of_lt_of_le h.lt hb.size⟩
theorem BxL.set {w : World} {b : Nat} {vs : List Value} (h : BxL w b vs) (i : Nat) (u : Value) (hi : i < vs.length) : BxL (w.setCell ⟨b, i, none⟩ u) b (vs.set i u) := by
  refine ⟨fun j v hv => ?_, fun j => by rw [World.frozen?_setCell]; exact h.f j, by simp [World.setCell]; exact h.lt⟩
  by_cases e : j = i
  · subst e
    rw [List.getElem?_set_self hi] at hv
    injection hv with hv
    subst hv
    exact World.cell?_setCell_same _ _ _ (h.c j vs[j] (List.getElem?_eq_getElem hi))
  · rw [List.getElem?_set_ne (fun e2 => e e2.symm)] at hv
    rw [World.cell?_setCell_other _ _ _ _ (by simp; try omega)]
    exact h.c j v hv
theorem BxL.setAt {w : World} {b : Nat} {vs : List Value} (h : BxL w b vs) (q : Addr) (u : Value) (hq : q.block ≠ b) : BxL (w.setCell q u) b vs :=
  ⟨fun i v hv => by rw [World.cell?_setCell_far _ _ _ _ hq]; exact h.c i v hv, fun i => by rw [World.frozen?_setCell]; exact h.f i, by simp [World.setCell]; exact h.lt⟩
theorem BxL.made (w : World) (vs : List Value) (t : TypeId) : BxL (w.alloc (.cells vs.toArray t)) w.heap.size vs := ⟨fun i v hv => by simp [hv], fun i => by simp, by simp⟩

structure Cm where
  w : ByteArray
  a : Int
  b : Int
  n : Int
  x : Int
  p : List ByteArray
  v : ByteArray
def Cm.no : Cm := ⟨⟨#[]⟩, 0, 0, 0, 0, [], ⟨#[]⟩⟩
def wKeys : List UInt8 := [107, 101, 121, 115]

def pcK (r i : Nat) : Nat := if i < r then i else 2 + i - r
def pcN (W : List ByteArray) (r i : Nat) : Int := if i < r then decF (gS W (1 + i)) 1 else decF (gS W (1 + i)) 5
def pcBad (W : List ByteArray) (r i : Nat) : Bool := decide (pcN W r i < 0) || (decide (i < r) && decide (pcN W r i > 7)) || (decide (pcK r i = 3) && decide (pcN W r i > 255))
def pcG (W : List ByteArray) (r : Nat) : Nat → List Int
  | 0 => [0, 0, 0, 0]
  | i + 1 => (pcG W r i).set (pcK r i) (pcN W r i)
def pcPth (W : List ByteArray) : Int := if (gS W 0).toList == wKeys && decide (W.length = 2) then 0 else (fmF (gS W 0)).2.2.1
def pcOk (W : List ByteArray) (r m : Nat) : Bool := (List.range (r + m)).all fun i => !pcBad W r i
def pcP (W : List ByteArray) (r : Nat) (pth : Int) : List ByteArray := if pth = 1 then cutW 47 (gS W (1 + r)) else []
def pcV (W : List ByteArray) (val : Int) : ByteArray := if val = 1 then gS W (W.length - 1) else ⟨#[]⟩

def pcS (s : ByteArray) : Option Cm :=
  let W := cutW 32 s
  let q := fmF (gS W 0)
  let r := q.1.toNat
  let m := q.2.1.toNat
  let pth := pcPth W
  let val := q.2.2.2
  if q.1 < 0 ∨ (W.length : Int) ≠ 1 + q.1 + q.2.1 + pth + val then none
  else if pcOk W r m = false then none
  else if pth = 1 ∧ hasT (pcP W r pth) ⟨#[]⟩ = true then none
  else if val = 1 ∧ ((pcV W val).toList == []) = true then none
  else some ⟨gS W 0, (pcG W r (r + m)).getD 0 0, (pcG W r (r + m)).getD 1 0, (pcG W r (r + m)).getD 2 0, (pcG W r (r + m)).getD 3 0, pcP W r pth, pcV W val⟩
theorem pcG_len (W : List ByteArray) (r : Nat) : ∀ i, (pcG W r i).length = 4
  | 0 => rfl
  | i + 1 => by unfold pcG; rw [List.length_set, pcG_len W r i]
theorem fm_cases (x : ByteArray) : fmF x = (-1, 0, 0, 0) ∨ ∃ r m p v : Nat, fmF x = ((r : Int), (m : Int), (p : Int), (v : Int)) ∧ 1 ≤ r ∧ r ≤ 2 ∧ m ≤ 2 ∧ p ≤ 1 ∧ v ≤ 1 := by
  unfold fmF
  split
  · exact .inr ⟨1, 0, 1, 1, rfl, by omega, by omega, by omega, by omega, by omega⟩
  · split
    · exact .inr ⟨1, 0, 1, 0, rfl, by omega, by omega, by omega, by omega, by omega⟩
    · split
      · exact .inr ⟨1, 0, 0, 0, rfl, by omega, by omega, by omega, by omega, by omega⟩
      · split
        · exact .inr ⟨2, 0, 0, 0, rfl, by omega, by omega, by omega, by omega, by omega⟩
        · split
          · exact .inr ⟨2, 1, 0, 0, rfl, by omega, by omega, by omega, by omega, by omega⟩
          · split
            · exact .inr ⟨2, 2, 0, 0, rfl, by omega, by omega, by omega, by omega, by omega⟩
            · exact .inl rfl
theorem cut_ne (c : UInt8) (s : ByteArray) : 1 ≤ (cutW c s).length := by
  have := Lib.splitB_all ⟨#[c]⟩ (Nat.le_refl 1) 0 _ s rfl
  unfold cutW; omega
theorem cut_len (c : UInt8) (s : ByteArray) : (cutW c s).length ≤ s.size + 1 := by
  have h1 := Lib.splitB_all ⟨#[c]⟩ (Nat.le_refl 1) 0 _ s rfl
  have h2 := Lib.countB_le ⟨#[c]⟩ (Nat.le_refl 1) s.size s (Nat.le_refl _)
  unfold cutW; omega
end Go.Proofs.YtemfhnnkkmiamaaGreatDoor
