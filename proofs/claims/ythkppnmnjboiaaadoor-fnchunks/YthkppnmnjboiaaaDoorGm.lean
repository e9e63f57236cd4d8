import Derived.Test.YthkppnmnjboiaaaDoorGl
namespace Go.Proofs.YthkppnmnjboiaaaDoor
open Go.ChangeShapes Go.WideShapes Go.ChangeAt Go.RowKit
set_option linter.unusedVariables false
set_option linter.unusedSimpArgs false

theorem gX_in {f : Nat → Int} {n m p : Nat} (hp : p < n) : gX f n m (p : Int) = (guV f n p m, (guA f n p m : Int), guC f n p m) := by
  unfold gX; rw [if_pos ⟨by omega, by omega⟩]; simp
theorem gX_out {f : Nat → Int} {n m : Nat} {x : Int} (hx : x < 0 ∨ (n : Int) ≤ x) : gX f n m x = (0, x, 1) := by
  unfold gX; rw [if_neg (by omega)]
theorem gX_bounds {f : Nat → Int} {n m : Nat} {x : Int} (hm : Cnt f n x.toNat m) (hf : Byt f) (hn : n ≤ 4194304) (hx0 : -9223372036854775808 ≤ x) (hx1 : x ≤ 9223372036854775807) :
    (gX f n m x).1 < 18446744073709551616 ∧ (gX f n m x).2.2 ≤ 3 ∧ ((gX f n m x).2.2 = 0 → 0 ≤ (gX f n m x).2.1 ∧ (gX f n m x).2.1 ≤ n) ∧ ((gX f n m x).2.2 ≠ 0 → (gX f n m x).2.1 = x) := by
  by_cases hx : 0 ≤ x ∧ x < n
  · obtain ⟨p, rfl⟩ : ∃ p : Nat, x = (p : Int) := ⟨x.toNat, by omega⟩
    rw [gX_in (by omega)]
    have hm' : Cnt f n p m := by simpa using hm
    refine ⟨?_, ?_, ?_, ?_⟩
    · show guV f n p m < _
      unfold guV
      split
      · rename_i h0
        refine sumF_64 hf p m hm'.1 (fun h9 => ?_) (m + 1) (Nat.le_refl _)
        unfold guC at h0
        by_cases h1 : n ≤ p + m
        · rw [if_pos h1] at h0; omega
        · rw [if_neg h1] at h0
          by_cases h2 : m = 9 ∧ 1 < f (p + m)
          · rw [if_pos h2] at h0; omega
          · omega
      · omega
    · show guC f n p m ≤ 3
      rcases guC_or f n p m with h | h | h | h <;> omega
    · intro h0
      have h0' : guC f n p m = 0 := h0
      have h1 : ¬ n ≤ p + m := fun h1 => by unfold guC at h0'; rw [if_pos h1] at h0'; omega
      show 0 ≤ (guA f n p m : Int) ∧ (guA f n p m : Int) ≤ n
      unfold guA; rw [if_pos h0']; omega
    · intro h0
      show (guA f n p m : Int) = p
      unfold guA; rw [if_neg h0]
  · rw [gX_out (by omega)]
    exact ⟨by simp, by simp, fun h => by simp at h, fun _ => rfl⟩

theorem specX (a : Option Addr) (n c m : Nat) (x : Int) (f : Nat → Int) (w : World) (hn : n ≤ 4194304) (hf : Byt f) (h : Seg w a n f) (hm : Cnt f n x.toNat m) :
    Calls Tryd.prog 31 #[.slice a n c, .int .i64 x] w fun e w' => e = .returned (.tuple #[.int .u64 ((gX f n m x).1 : Int), .int .i64 (gX f n m x).2.1, .int .i64 ((gX f n m x).2.2 : Int)]) ∧ Below w.heap.size w w' := by
  by_cases h1 : x < 0 ∨ (n : Int) < x
  · rw [gX_out (by omega)]
    exact specGuOut a n c x w hn h1
  · obtain ⟨p, rfl⟩ : ∃ p : Nat, x = (p : Int) := ⟨x.toNat, by omega⟩
    have hm' : Cnt f n p m := by simpa using hm
    have := specGu a n c p m f w hn hf h (by omega) hm'
    by_cases hp : p < n
    · rw [gX_in hp]; exact this
    · have hpn : p = n := by omega
      subst hpn
      have hm0 : m = 0 := by
        rcases Nat.eq_zero_or_pos m with h0 | h0
        · exact h0
        · have := (hm'.2.1 0 h0).1; omega
      subst hm0
      have hC : guC f p p 0 = 1 := by unfold guC; rw [if_pos (by omega)]
      have hV : guV f p p 0 = 0 := by unfold guV; rw [hC]; simp
      have hA : guA f p p 0 = p := by unfold guA; rw [hC]; simp
      rw [hC, hV, hA] at this
      rw [gX_out (by omega)]
      exact this

end Go.Proofs.YthkppnmnjboiaaaDoor
