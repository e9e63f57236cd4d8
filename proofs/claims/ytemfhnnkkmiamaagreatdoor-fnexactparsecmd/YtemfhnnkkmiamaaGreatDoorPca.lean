import Derived.Test.YtemfhnnkkmiamaaGreatDoorPc0
import Derived.Lib.SplitLaws
import Derived.Lib.CountLaws
import Derived.Lib.IndexBytes
namespace Go.Proofs.YtemfhnnkkmiamaaGreatDoor
open Go.ChangeShapes Go.WideShapes Go.ChangeAt Go.RowKit
set_option linter.unusedVariables false
set_option linter.unusedSimpArgs false

def cutW (c : UInt8) (s : ByteArray) : List ByteArray := Lib.splitB ⟨#[c]⟩ 0 (Lib.countB s ⟨#[c]⟩) s
theorem cut_miss {c : UInt8} {s : ByteArray} (h : Lib.indexB s ⟨#[c]⟩ = -1) : cutW c s = [s] := Lib.splitB_miss _ _ _ _ h
theorem cut_hit {c : UInt8} {s : ByteArray} {i : Nat} (h : Lib.indexB s ⟨#[c]⟩ = i) : cutW c s = s.extract 0 i :: cutW c (s.extract (i + 1) s.size) := by
  unfold cutW
  rw [Lib.countB_hit s ⟨#[c]⟩ i (Nat.le_refl 1) h, Nat.add_comm 1, Lib.splitB_hit _ 0 _ s i h]
  rfl
theorem idx_at {c : UInt8} : ∀ {l : List UInt8} {k : Nat}, (∀ j, j < k → l[j]? ≠ some c) → l[k]? = some c → Lib.indexByte l c = k
  | [], k, _, h => by simp at h
  | b :: l, 0, _, h => by
    have e : b = c := by simpa using h
    unfold Lib.indexByte; rw [e]; simp
  | b :: l, k + 1, h, hk => by
    have h0 : b ≠ c := fun e => h 0 (by omega) (by simp [e])
    have ih := idx_at (c := c) (l := l) (k := k) (fun j hj => by have := h (j + 1) (by omega); simpa using this) (by simpa using hk)
    unfold Lib.indexByte
    rw [ih]
    have e1 : (b == c) = false := beq_eq_false_iff_ne.2 h0
    have e2 : ((k : Int) == -1) = false := by rw [beq_eq_false_iff_ne]; omega
    rw [e1, e2]; simp
theorem idx_no {c : UInt8} : ∀ {l : List UInt8}, (∀ j : Nat, l[j]? ≠ some c) → Lib.indexByte l c = -1
  | [], _ => rfl
  | b :: l, h => by
    have h0 : b ≠ c := fun e => h 0 (by simp [e])
    have ih := idx_no (c := c) (l := l) (fun j => by have := h (j + 1); simpa using this)
    unfold Lib.indexByte
    rw [ih]
    have e1 : (b == c) = false := beq_eq_false_iff_ne.2 h0
    rw [e1]; simp
theorem ext_list (s : ByteArray) (a b : Nat) (j : Nat) : (s.extract a b).data.toList[j]? = if j < min b s.size - a then s.data.toList[a + j]? else none := by
  have hz : s.size = s.data.toList.length := (Array.length_toList (xs := s.data)).symm
  have e : (s.extract a b).data.toList = (s.data.toList.drop a).take (b - a) := by simp [ByteArray.data_extract]
  rw [e, List.getElem?_take, List.getElem?_drop]
  by_cases h : j < min b s.size - a
  · rw [if_pos h, if_pos (by omega)]
  · rw [if_neg h]
    split
    · exact List.getElem?_eq_none (by omega)
    · rfl

theorem cut_step {c : UInt8} {s : ByteArray} {f i : Nat} (hfi : f ≤ i) (hi : i < s.size) (hno : ∀ j, f ≤ j → j < i → s.data.toList[j]? ≠ some c) (hc : s.data.toList[i]? = some c) : cutW c (s.extract f s.size) = s.extract f i :: cutW c (s.extract (i + 1) s.size) := by
  have h1 : Lib.indexB (s.extract f s.size) ⟨#[c]⟩ = ((i - f : Nat) : Int) := by
    show Lib.index _ [c] = _
    rw [Lib.index_one]
    refine idx_at (fun j hj => ?_) ?_
    · rw [ext_list, if_pos (by omega)]; exact hno _ (by omega) (by omega)
    · rw [ext_list, if_pos (by omega), show f + (i - f) = i by omega]; exact hc
  rw [cut_hit h1]
  have hs : (s.extract f s.size).size = s.size - f := by simp
  congr 1
  · rw [ByteArray.extract_extract]
    congr 1
    omega
  · rw [ByteArray.extract_extract, hs]
    congr 1
    congr 1
    · omega
    · omega
theorem cut_last {c : UInt8} {s : ByteArray} {f : Nat} (hno : ∀ j, f ≤ j → j < s.size → s.data.toList[j]? ≠ some c) : cutW c (s.extract f s.size) = [s.extract f s.size] := by
  refine cut_miss ?_
  show Lib.index _ [c] = _
  rw [Lib.index_one]
  refine idx_no (fun j => ?_)
  rw [ext_list]
  split
  · exact hno _ (by omega) (by omega)
  · simp
end Go.Proofs.YtemfhnnkkmiamaaGreatDoor
