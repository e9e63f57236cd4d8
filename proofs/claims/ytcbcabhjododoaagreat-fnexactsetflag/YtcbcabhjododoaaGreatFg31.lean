import Derived.Test.YtcbcabhjododoaaGreatFg19
import Derived.Test.YtcbcabhjododoaaGreatShelf
import Derived.Lib.SlKeysI
set_option linter.unusedVariables false
set_option linter.unusedSimpArgs false
set_option maxRecDepth 100000
set_option maxHeartbeats 40000000
namespace Go.Proofs.YtcbcabhjododoaaGreat
open Go.ChangeShapes Go.WideShapes Go.ChangeAt Go.RowKit Go.Maps
def sF (l : List (Int × Int)) (i : Nat) : Int := (l.getD i (0, 0)).1
def sT (l : List (Int × Int)) (i : Nat) : Int := (l.getD i (0, 0)).2
end Go.Proofs.YtcbcabhjododoaaGreat
namespace Go.Proofs.YtcbcabhjododoaaGreat
open Go.ChangeShapes Go.WideShapes Go.ChangeAt Go.RowKit Go.Maps Go.Sort Go.Shelf
theorem sortsA (m : Nat) : AnyZI.SortsIn Tryz.prog Tryz.sortedA_ren Fence.wide m :=
 ⟨fun blk off cap ss W hH hblk hsz => callsIn_wide.2 (AnyM.slices_Sort_int Tryz.sortA blk off cap ss W hH hblk hsz),
  fun p cap W => callsIn_wide.2 (AnyM.slices_Sort_int_none Tryz.sortA p cap W)⟩
theorem keysC (mb : Option Nat) (W : World) : Calls Tryz.prog 118 #[.map mb] W fun e w' => e = .returned (.func (.func 131) #[] #[.pointer (some ⟨W.heap.size, 0, none⟩)]) ∧ w' = W.alloc (.cells #[.map mb] 66) :=
 (callsIn_wide (n := 5)).1 (AnyZI.keys_in Tryz.keysA Fence.wide 5 trivial rfl mb W)
theorem sortedC {H : Type} (b nn : Nat) (D0 : DataW H) (R : Value → Option (DataW H × List MemPlace)) (w : World) (hown : w.ownsMap Tryz.prog 3 R b nn D0) (hmax : Maps.size D0 ≤ maxLen) (hbytes : Maps.size D0 * 8 ≤ 140737488355328) :
  Calls Tryz.prog 117 #[.func (.func 131) #[] #[.pointer (some ⟨w.heap.size, 0, none⟩)]] (w.alloc (.cells #[.map (some b)] 66)) fun e w' => ∃ (v : Value) (ss : List Int), e = .returned v ∧ ss.Perm (intKeys D0) ∧
   w'.ownsRow (w.heap.size + 1) 3 1 v ss.length ((ss.mergeSort (fun x y => decide (x ≤ y))).map encZ) ∧ Below w.heap.size w w' := by
 have hbl := hown.lt
 have hseq : SeqGives Fence.wide 2 Tryz.prog 131 #[.pointer (some ⟨w.heap.size, 0, none⟩)] encZ (fun ss => ss.Perm (intKeys D0)) (Maps.size D0) (w.alloc (.cells #[.map (some b)] 66)) :=
  AnyZI.keys_gives (ρ := Tryz.keysA_ren) { Tryz.keysA with } Fence.wide _ trivial rfl (by omega) w.heap.size b nn D0 _ (by simp) (by simp) (by
   obtain ⟨es, clock, hb, Ft, hs, hD⟩ := hown
   exact ⟨es, clock, (Below.heap_alloc _ _ b hbl).trans hb, Ft, hs, hD⟩)
 have cS := AnyZI.sorted_in Tryz.sortedA Fence.wide 5 trivial trivial trivial trivial rfl (by omega) (sortsA _) (enters_of Tryz.func130 (by kernel_rfl) rfl) 131 #[.pointer (some ⟨w.heap.size, 0, none⟩)] trivial (enters_of Tryz.func131 (by kernel_rfl) rfl) _ _ hmax hbytes _ hseq
 change CallsIn _ _ Tryz.prog 117 _ _ _ at cS
 refine ((callsIn_wide (n := 5)).1 cS).mono ?_
 rintro e w' ⟨v, ss, rfl, hS, hrow, hnil, hb⟩
 refine ⟨v, ss, rfl, hS, ?_, ((Below.refl _ w).alloc (Nat.le_refl _) _).trans (hb.mono (by simp))⟩
 have e : (w.alloc (.cells #[.map (some b)] 66)).heap.size = w.heap.size + 1 := by simp
 rw [e] at hrow
 exact hrow
def KS (L : Int → List (Int × Int)) : Nat → List Int
 | 0 => []
 | k + 1 => KS L k ++ (if (L (k : Int)).isEmpty then [] else [(k : Int)])
theorem KS_mem (L : Int → List (Int × Int)) (k : Nat) : ∀ x, x ∈ KS L k ↔ (0 ≤ x ∧ x < k ∧ (L x).isEmpty = false) := by
 induction k with
 | zero => intro x; simp [KS]; omega
 | succ k ih =>
  intro x
  simp only [KS, List.mem_append, ih]
  by_cases e : (L (k : Int)).isEmpty = true
  ·rw [if_pos e]
   constructor
   ·rintro (⟨a, b, c⟩ | h)
    ·exact ⟨a, by omega, c⟩
    ·simp at h
   ·rintro ⟨a, b, c⟩
    refine .inl ⟨a, ?_, c⟩
    rcases Int.lt_or_le x k with h | h
    ·exact h
    ·have : x = (k : Int) := by omega
     rw [this, e] at c; cases c
  ·rw [if_neg e]
   simp only [Bool.not_eq_true] at e
   constructor
   ·rintro (⟨a, b, c⟩ | h)
    ·exact ⟨a, by omega, c⟩
    ·rw [List.mem_singleton] at h; subst h; exact ⟨by omega, by omega, e⟩
   ·rintro ⟨a, b, c⟩
    rcases Int.lt_or_le x k with h | h
    ·exact .inl ⟨a, h, c⟩
    ·exact .inr (List.mem_singleton.2 (by omega))
theorem KS_lt (L : Int → List (Int × Int)) (k : Nat) : (KS L k).Pairwise (fun x y => x < y) := by
 induction k with
 | zero => exact List.Pairwise.nil
 | succ k ih =>
  simp only [KS]
  refine List.pairwise_append.2 ⟨ih, ?_, fun x hx y hy => ?_⟩
  ·split
   ·exact List.Pairwise.nil
   ·exact List.pairwise_singleton _ _
  ·have := (KS_mem L k x).1 hx
   split at hy
   ·cases hy
   ·rw [List.mem_singleton] at hy; omega
theorem KS_len (L : Int → List (Int × Int)) (k : Nat) : (KS L k).length ≤ k := by
 induction k with
 | zero => simp [KS]
 | succ k ih => simp only [KS, List.length_append]; split <;> simp <;> omega
theorem KS_sorted {L : Int → List (Int × Int)} {ss ks : List Int} (h1 : (KS L 8).Perm ks) (h2 : ss.Perm ks) : ss.mergeSort (fun x y => decide (x ≤ y)) = KS L 8 := by
 rw [mergeSort_of_perm_i (h2.trans h1.symm)]
 refine List.mergeSort_of_pairwise ((KS_lt L 8).imp (fun h => ?_))
 simp; omega
theorem Lk_rep {R F T : Nat → Int} : ∀ k : Nat, okTo R F T k → ∀ r, Lk R F T k r ≠ [] → 0 ≤ r ∧ r < 8
 | 0, _ => fun r h => absurd rfl h
 | k + 1, h => fun r hr => by
  have ho := runOk_iff.1 (h k (by omega)).1
  by_cases e : r = R k
  ·subst e; exact ⟨ho.1, ho.2.1⟩
  ·have e1 : Lk R F T (k + 1) r = Lk R F T k r := upd_other _ _ e
   rw [e1] at hr
   exact Lk_rep k (fun i hi => h i (by omega)) r hr
end Go.Proofs.YtcbcabhjododoaaGreat
namespace Go.Proofs.YtcbcabhjododoaaGreat
open Go.ChangeShapes Go.WideShapes Go.ChangeAt Go.RowKit Go.Maps Go.Sort
theorem row_ints {w : World} {B g m cap : Nat} {zs : List Int} (h : w.ownsRow B 3 1 (.slice (some ⟨g, 0, none⟩) m cap) m (zs.map encZ)) (hl : zs.length = m) : ∀ i, i < m → w.cell? ⟨g, i, none⟩ = some (.int .i64 (zs.getD i 0)) := by
 intro i hi
 rw [h.cellAt i (by omega)]
 simp [List.getD, show i < zs.length by omega]
end Go.Proofs.YtcbcabhjododoaaGreat
