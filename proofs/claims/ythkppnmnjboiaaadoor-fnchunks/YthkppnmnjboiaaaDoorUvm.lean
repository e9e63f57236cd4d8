import Derived.Test.YthkppnmnjboiaaaDoorGm
import Derived.Test.YthkppnmnjboiaaaDoorWu
namespace Go.Proofs.YthkppnmnjboiaaaDoor
open Go.ChangeShapes Go.WideShapes Go.ChangeAt Go.RowKit
set_option linter.unusedVariables false
set_option linter.unusedSimpArgs false

theorem sumF_shift (f : Nat → Int) (p : Nat) : ∀ j, sumF f p (j + 1) = (f p % 128).toNat + 128 * sumF f (p + 1) j
  | 0 => by simp [sumF]
  | j + 1 => by
    have ih := sumF_shift f p j
    show sumF f p (j + 1) + (f (p + (j + 1)) % 128).toNat * 128 ^ (j + 1) = _
    rw [ih]
    show _ = (f p % 128).toNat + 128 * (sumF f (p + 1) j + (f (p + 1 + j) % 128).toNat * 128 ^ j)
    rw [show p + 1 + j = p + (j + 1) from by omega, Nat.pow_succ, Nat.mul_add]
    have : (f (p + (j + 1)) % 128).toNat * (128 ^ j * 128) = 128 * ((f (p + (j + 1)) % 128).toNat * 128 ^ j) := by
      rw [Nat.mul_comm (128 ^ j) 128, ← Nat.mul_assoc, Nat.mul_comm _ 128, Nat.mul_assoc]
    omega

def At (f : Nat → Int) (p : Nat) (U : List Int) : Prop := ∀ i, i < U.length → f (p + i) = U.getD i 0
theorem At.tail {f : Nat → Int} {p : Nat} {z : Int} {U : List Int} (h : At f p (z :: U)) : At f (p + 1) U := by
  intro i hi
  have := h (i + 1) (by simp; omega)
  rw [show p + 1 + i = p + (i + 1) from by omega, this]
  simp
theorem At.head {f : Nat → Int} {p : Nat} {z : Int} {U : List Int} (h : At f p (z :: U)) : f p = z := by simpa using h 0 (by simp)

theorem uv_reads (k : Nat) : ∀ (V p : Nat) (f : Nat → Int), V < 128 ^ (k + 1) → At f p (uvF k V) →
    (∀ i, i + 1 < (uvF k V).length → 128 ≤ f (p + i) ∧ f (p + i) < 256) ∧ (0 ≤ f (p + ((uvF k V).length - 1)) ∧ f (p + ((uvF k V).length - 1)) < 128) ∧ (0 < V → f (p + ((uvF k V).length - 1)) ≠ 0) ∧ sumF f p (uvF k V).length = V := by
  have small : ∀ (k V p : Nat) (f : Nat → Int), V < 128 → At f p (uvF k V) →
      (∀ i, i + 1 < (uvF k V).length → 128 ≤ f (p + i) ∧ f (p + i) < 256) ∧ (0 ≤ f (p + ((uvF k V).length - 1)) ∧ f (p + ((uvF k V).length - 1)) < 128) ∧ (0 < V → f (p + ((uvF k V).length - 1)) ≠ 0) ∧ sumF f p (uvF k V).length = V := by
    intro k V p f hV h
    rw [uvF_lt k V hV] at h ⊢
    have h0 := h.head
    refine ⟨fun i hi => by simp at hi, ?_, ?_, ?_⟩
    · simp; rw [h0]; omega
    · simp; rw [h0]; omega
    · simp [sumF]; rw [h0]; omega
  induction k with
  | zero => intro V p f hV h; exact small 0 V p f (by simpa using hV) h
  | succ k ih =>
    intro V p f hV h
    by_cases hlt : V < 128
    · exact small (k + 1) V p f hlt h
    · rw [uvF_ge k V hlt] at h ⊢
      have hh := h.head
      have hl := (uvF_len k (V / 128)).2
      obtain ⟨i1, i2, i3, i4⟩ := ih (V / 128) (p + 1) f (by rw [Nat.pow_succ] at hV; omega) h.tail
      obtain ⟨l, hl'⟩ : ∃ l, (uvF k (V / 128)).length = l + 1 := ⟨(uvF k (V / 128)).length - 1, by omega⟩
      rw [hl'] at i1 i2 i3 i4
      simp only [List.length_cons, hl']
      refine ⟨?_, ?_, ?_, ?_⟩
      · intro i hi
        by_cases h0 : i = 0
        · subst h0; simp; rw [hh]; omega
        · have := i1 (i - 1) (by omega)
          rwa [show p + 1 + (i - 1) = p + i from by omega] at this
      · have := i2
        rw [show p + 1 + (l + 1 - 1) = p + (l + 1 + 1 - 1) from by omega] at this
        exact this
      · intro _
        have := i3 (by omega)
        rw [show p + 1 + (l + 1 - 1) = p + (l + 1 + 1 - 1) from by omega] at this
        exact this
      · rw [sumF_shift, i4, hh]; omega

theorem gX_put {f : Nat → Int} {n p V m : Nat} (hV : V < 18446744073709551616) (h : At f p (uvF 9 V)) (hn : p + (uvF 9 V).length ≤ n) (hm : Cnt f n p m) :
    gX f n m (p : Int) = (V, ((p + (uvF 9 V).length : Nat) : Int), 0) := by
  have hl := uvF_len 9 V
  obtain ⟨i1, i2, i3, i4⟩ := uv_reads 9 V p f (by omega) h
  obtain ⟨l, hl'⟩ : ∃ l, (uvF 9 V).length = l + 1 := ⟨(uvF 9 V).length - 1, by omega⟩
  rw [hl'] at i1 i2 i3 i4 hn hl ⊢
  simp only [Nat.add_sub_cancel] at i2 i3
  have hml : m = l := by
    rcases Nat.lt_trichotomy m l with h1 | h1 | h1
    · have a1 := (i1 m (by omega)).1
      have a2 := hm.2.2 (by omega) (by omega)
      omega
    · exact h1
    · have := (hm.2.1 l h1).2; omega
  subst hml
  have h9 : m = 9 → f (p + m) ≤ 1 := by
    intro e
    subst e
    have e1 : sumF f p (9 + 1) = sumF f p 9 + (f (p + 9) % 128).toNat * 128 ^ 9 := rfl
    rw [e1] at i4
    have e2 : (f (p + 9) % 128).toNat = (f (p + 9)).toNat := by omega
    rw [e2] at i4
    simp only [Nat.reducePow] at i4
    omega
  have hpos : 0 < m → f (p + m) ≠ 0 := by
    intro h0
    refine i3 ?_
    rcases Nat.eq_zero_or_pos V with hv | hv
    · rw [hv, uvF_lt 9 0 (by omega)] at hl'; simp at hl'; omega
    · exact hv
  have hC : guC f n p m = 0 := by
    unfold guC
    rw [if_neg (by omega), if_neg (by rintro ⟨e1, e2⟩; have := h9 e1; omega), if_neg (by rintro ⟨e1, e2⟩; exact hpos e1 e2)]
  rw [gX_in (by omega)]
  unfold guV guA
  rw [hC]
  simp [i4]
  omega

theorem getD_app_left {U W : List Int} {i : Nat} (h : i < U.length) : (U ++ W).getD i 0 = U.getD i 0 := by
  simp [List.getD, h, List.getElem?_append_left]
theorem at_app (hs U W : List Int) : At (fun i => (hs ++ U ++ W).getD i 0) hs.length U := by
  intro i hi
  simp only [List.getD]
  rw [List.append_assoc, List.getElem?_append_right (by omega), List.getElem?_append_left (by omega)]
  simp

theorem uv_takes (k : Nat) : ∀ (m p : Nat) (f : Nat → Int), m ≤ k → (∀ i, i < m → 128 ≤ f (p + i) ∧ f (p + i) < 256) → 0 ≤ f (p + m) → f (p + m) < 128 → (0 < m → f (p + m) ≠ 0) →
    uvF k (sumF f p (m + 1)) = (List.range (m + 1)).map (fun i => f (p + i)) := by
  have pos : ∀ (m p : Nat) (f : Nat → Int), 0 ≤ f (p + m) → f (p + m) < 128 → f (p + m) ≠ 0 → 0 < sumF f p (m + 1) := by
    intro m p f h0 h1 h2
    show 0 < sumF f p m + (f (p + m) % 128).toNat * 128 ^ m
    have : 0 < (f (p + m) % 128).toNat * 128 ^ m := Nat.mul_pos (by omega) (Nat.pow_pos (by omega))
    omega
  induction k with
  | zero =>
    intro m p f hm _ h0 h1 _
    obtain rfl : m = 0 := by omega
    have e : sumF f p 1 = (f p).toNat := by simp [sumF]; simp at h0 h1; omega
    rw [show (0 : Nat) + 1 = 1 from rfl, e, uvF_lt 0 _ (by simp at h0 h1; omega)]
    simp at h0 ⊢; omega
  | succ k ih =>
    intro m p f hm hc h0 h1 h2
    rcases Nat.eq_zero_or_pos m with rfl | hpos
    · have e : sumF f p 1 = (f p).toNat := by simp [sumF]; simp at h0 h1; omega
      rw [show (0 : Nat) + 1 = 1 from rfl, e, uvF_lt _ _ (by simp at h0 h1; omega)]
      simp at h0 ⊢; omega
    · obtain ⟨j, rfl⟩ : ∃ j, m = j + 1 := ⟨m - 1, by omega⟩
      have e := sumF_shift f p (j + 1)
      have hp := hc 0 (by omega)
      simp only [Nat.add_zero] at hp
      have q0 : 0 ≤ f (p + 1 + j) := by rw [show p + 1 + j = p + (j + 1) from by omega]; exact h0
      have q1 : f (p + 1 + j) < 128 := by rw [show p + 1 + j = p + (j + 1) from by omega]; exact h1
      have q2 : f (p + 1 + j) ≠ 0 := by rw [show p + 1 + j = p + (j + 1) from by omega]; exact h2 hpos
      have hs := pos j (p + 1) f q0 q1 q2
      have i1 := ih j (p + 1) f (by omega) (fun i hi => by have := hc (i + 1) (by omega); rwa [show p + (i + 1) = p + 1 + i from by omega] at this) q0 q1 (fun _ => q2)
      rw [e, uvF_ge k _ (by omega)]
      have d1 : ((f p % 128).toNat + 128 * sumF f (p + 1) (j + 1)) / 128 = sumF f (p + 1) (j + 1) := by omega
      have d2 : (((128 + ((f p % 128).toNat + 128 * sumF f (p + 1) (j + 1)) % 128 : Nat)) : Int) = f p := by omega
      rw [d1, d2, i1]
      conv => rhs; rw [List.range_succ_eq_map]
      simp only [List.map_cons, List.map_map, Nat.add_zero]
      congr 1
      apply List.map_congr_left
      intro i _
      show f (p + 1 + i) = f (p + (i + 1))
      rw [show p + 1 + i = p + (i + 1) from by omega]

theorem gX_zero {f : Nat → Int} {n m : Nat} {x : Int} (hf : Byt f) (hm : Cnt f n x.toNat m) (h : (gX f n m x).2.2 = 0) :
    ∃ p : Nat, x = (p : Int) ∧ p + m + 1 ≤ n ∧ (gX f n m x).1 < 18446744073709551616 ∧ (gX f n m x).2.1 = ((p + m + 1 : Nat) : Int) ∧ uvF 9 (gX f n m x).1 = (List.range (m + 1)).map (fun i => f (p + i)) := by
  by_cases hx : 0 ≤ x ∧ x < n
  · obtain ⟨p, rfl⟩ : ∃ p : Nat, x = (p : Int) := ⟨x.toNat, by omega⟩
    have hm' : Cnt f n p m := by simpa using hm
    rw [gX_in (by omega)] at h ⊢
    have hC : guC f n p m = 0 := h
    have h1 : ¬ n ≤ p + m := fun h1 => by unfold guC at hC; rw [if_pos h1] at hC; omega
    have h2 : ¬ (m = 9 ∧ 1 < f (p + m)) := fun h2 => by unfold guC at hC; rw [if_neg h1, if_pos h2] at hC; omega
    have h3 : ¬ (0 < m ∧ f (p + m) = 0) := fun h3 => by unfold guC at hC; rw [if_neg h1, if_neg h2, if_pos h3] at hC; omega
    have hV : guV f n p m = sumF f p (m + 1) := by unfold guV; rw [if_pos hC]
    have hA : guA f n p m = p + m + 1 := by unfold guA; rw [if_pos hC]
    have h4 : f (p + m) < 128 := by
      by_cases h9 : m = 9
      · omega
      · exact hm'.2.2 (by omega) (by have := hm'.1; omega)
    refine ⟨p, rfl, by omega, ?_, by show (guA f n p m : Int) = _; rw [hA], ?_⟩
    · show guV f n p m < _
      rw [hV]
      exact sumF_64 hf p m hm'.1 (fun h9 => by omega) (m + 1) (Nat.le_refl _)
    · show uvF 9 (guV f n p m) = _
      rw [hV]
      exact uv_takes 9 m p f hm'.1 (fun i hi => ⟨(hm'.2.1 i hi).2, (hf _).2⟩) (hf _).1 h4 (fun h0 e => h3 ⟨h0, e⟩)
  · rw [gX_out (by omega)] at h; simp at h

end Go.Proofs.YthkppnmnjboiaaaDoor
