import Derived.Test.YtakmpmhjcngbbaaGreatDoorMgg03
import Derived.Test.YtakmpmhjcngbbaaGreatDoorMgg02
set_option linter.unusedVariables false
set_option linter.unusedSimpArgs false
set_option maxRecDepth 100000
set_option maxHeartbeats 40000000
namespace Go.Proofs.YtakmpmhjcngbbaaGreatDoor
open Go.ChangeShapes Go.WideShapes Go.ChangeAt Go.RowKit
theorem gX_in {f : Nat → Int} {n m p : Nat} (hp : p < n) : gX f n m (p : Int) = (guV f n p m, (guA f n p m : Int), guC f n p m) := by
  unfold gX; rw [if_pos ⟨by omega, by omega⟩]; simp
theorem gX_out {f : Nat → Int} {n m : Nat} {x : Int} (hx : x < 0 ∨ (n : Int) ≤ x) : gX f n m x = (0, x, 1) := by
  unfold gX; rw [if_neg (by omega)]
theorem gX_bounds {f : Nat → Int} {n m : Nat} {x : Int} (hm : Cnt f n x.toNat m) (hf : Byt f) (hn : n ≤ 1048576) (hx0 : -9223372036854775808 ≤ x) (hx1 : x ≤ 9223372036854775807) :
    (gX f n m x).1 < 18446744073709551616 ∧ (gX f n m x).2.2 ≤ 3 ∧ ((gX f n m x).2.2 = 0 → 0 ≤ (gX f n m x).2.1 ∧ (gX f n m x).2.1 ≤ n) ∧ ((gX f n m x).2.2 ≠ 0 → (gX f n m x).2.1 = x) := by
  by_cases hx : 0 ≤ x ∧ x < n
  · obtain ⟨p, rfl⟩ : ∃ p : Nat, x = (p : Int) := ⟨x.toNat, by omega⟩
    rw [gX_in (by omega)]
    have hm' : Cnt f n p m := by simpa using hm
    refine ⟨?_, ?_, ?_, ?_⟩
    · show guV f n p m < _
      unfold guV
      split
      · rename_i h0
        refine sumF_64 hf p m hm'.1 (fun h9 => ?_) (m + 1) (Nat.le_refl _)
        unfold guC at h0
        by_cases h1 : n ≤ p + m
        · rw [if_pos h1] at h0; omega
        · rw [if_neg h1] at h0
          by_cases h2 : m = 9 ∧ 1 < f (p + m)
          · rw [if_pos h2] at h0; omega
          · omega
      · omega
    · show guC f n p m ≤ 3
      rcases guC_or f n p m with h | h | h | h <;> omega
    · intro h0
      have h0' : guC f n p m = 0 := h0
      have h1 : ¬ n ≤ p + m := fun h1 => by unfold guC at h0'; rw [if_pos h1] at h0'; omega
      show 0 ≤ (guA f n p m : Int) ∧ (guA f n p m : Int) ≤ n
      unfold guA; rw [if_pos h0']; omega
    · intro h0
      show (guA f n p m : Int) = p
      unfold guA; rw [if_neg h0]
  · rw [gX_out (by omega)]
    exact ⟨by simp, by simp, fun h => by simp at h, fun _ => rfl⟩
theorem specX (a : Option Addr) (n c m : Nat) (x : Int) (f : Nat → Int) (w : World) (hn : n ≤ 1048576) (hf : Byt f) (h : Seg w a n f) (hm : Cnt f n x.toNat m) :
    Calls Tryz.prog 40 #[.slice a n c, .int .i64 x] w fun e w' => e = .returned (.tuple #[.int .u64 ((gX f n m x).1 : Int), .int .i64 (gX f n m x).2.1, .int .i64 ((gX f n m x).2.2 : Int)]) ∧ Below w.heap.size w w' := by
  by_cases h1 : x < 0 ∨ (n : Int) < x
  · rw [gX_out (by omega)]
    exact specGuOut a n c x w hn h1
  · obtain ⟨p, rfl⟩ : ∃ p : Nat, x = (p : Int) := ⟨x.toNat, by omega⟩
    have hm' : Cnt f n p m := by simpa using hm
    have := specGu a n c p m f w hn hf h (by omega) hm'
    by_cases hp : p < n
    · rw [gX_in hp]; exact this
    · have hpn : p = n := by omega
      subst hpn
      have hm0 : m = 0 := by
        rcases Nat.eq_zero_or_pos m with h0 | h0
        · exact h0
        · have := (hm'.2.1 0 h0).1; omega
      subst hm0
      have hC : guC f p p 0 = 1 := by unfold guC; rw [if_pos (by omega)]
      have hV : guV f p p 0 = 0 := by unfold guV; rw [hC]; simp
      have hA : guA f p p 0 = p := by unfold guA; rw [hC]; simp
      rw [hC, hV, hA] at this
      rw [gX_out (by omega)]
      exact this
theorem sumF_shift (f : Nat → Int) (p : Nat) : ∀ j, sumF f p (j + 1) = (f p % 128).toNat + 128 * sumF f (p + 1) j
  | 0 => by simp [sumF]
  | j + 1 => by
    have ih := sumF_shift f p j
    show sumF f p (j + 1) + (f (p + (j + 1)) % 128).toNat * 128 ^ (j + 1) = _
    rw [ih]
    show _ = (f p % 128).toNat + 128 * (sumF f (p + 1) j + (f (p + 1 + j) % 128).toNat * 128 ^ j)
    rw [show p + 1 + j = p + (j + 1) from by omega, Nat.pow_succ, Nat.mul_add]
    have : (f (p + (j + 1)) % 128).toNat * (128 ^ j * 128) = 128 * ((f (p + (j + 1)) % 128).toNat * 128 ^ j) := by
      rw [Nat.mul_comm (128 ^ j) 128, ← Nat.mul_assoc, Nat.mul_comm _ 128, Nat.mul_assoc]
    omega
def At (f : Nat → Int) (p : Nat) (U : List Int) : Prop := ∀ i, i < U.length → f (p + i) = U.getD i 0
theorem At.tail {f : Nat → Int} {p : Nat} {z : Int} {U : List Int} (h : At f p (z :: U)) : At f (p + 1) U := by
  intro i hi
  have := h (i + 1) (by simp; omega)
  rw [show p + 1 + i = p + (i + 1) from by omega, this]
  simp
theorem At.head {f : Nat → Int} {p : Nat} {z : Int} {U : List Int} (h : At f p (z :: U)) : f p = z := by simpa using h 0 (by simp)
theorem uv_reads (k : Nat) : ∀ (V p : Nat) (f : Nat → Int), V < 128 ^ (k + 1) → At f p (uvF k V) →
    (∀ i, i + 1 < (uvF k V).length → 128 ≤ f (p + i) ∧ f (p + i) < 256) ∧ (0 ≤ f (p + ((uvF k V).length - 1)) ∧ f (p + ((uvF k V).length - 1)) < 128) ∧ (0 < V → f (p + ((uvF k V).length - 1)) ≠ 0) ∧ sumF f p (uvF k V).length = V := by
  have small : ∀ (k V p : Nat) (f : Nat → Int), V < 128 → At f p (uvF k V) →
      (∀ i, i + 1 < (uvF k V).length → 128 ≤ f (p + i) ∧ f (p + i) < 256) ∧ (0 ≤ f (p + ((uvF k V).length - 1)) ∧ f (p + ((uvF k V).length - 1)) < 128) ∧ (0 < V → f (p + ((uvF k V).length - 1)) ≠ 0) ∧ sumF f p (uvF k V).length = V := by
    intro k V p f hV h
    rw [uvF_lt k V hV] at h ⊢
    have h0 := h.head
    refine ⟨fun i hi => by simp at hi, ?_, ?_, ?_⟩
    · simp; rw [h0]; omega
    · simp; rw [h0]; omega
    · simp [sumF]; rw [h0]; omega
  induction k with
  | zero => intro V p f hV h; exact small 0 V p f (by simpa using hV) h
  | succ k ih =>
    intro V p f hV h
    by_cases hlt : V < 128
    · exact small (k + 1) V p f hlt h
    · rw [uvF_ge k V hlt] at h ⊢
      have hh := h.head
      have hl := (uvF_len k (V / 128)).2
      obtain ⟨i1, i2, i3, i4⟩ := ih (V / 128) (p + 1) f (by rw [Nat.pow_succ] at hV; omega) h.tail
      obtain ⟨l, hl'⟩ : ∃ l, (uvF k (V / 128)).length = l + 1 := ⟨(uvF k (V / 128)).length - 1, by omega⟩
      rw [hl'] at i1 i2 i3 i4
      simp only [List.length_cons, hl']
      refine ⟨?_, ?_, ?_, ?_⟩
      · intro i hi
        by_cases h0 : i = 0
        · subst h0; simp; rw [hh]; omega
        · have := i1 (i - 1) (by omega)
          rwa [show p + 1 + (i - 1) = p + i from by omega] at this
      · have := i2
        rw [show p + 1 + (l + 1 - 1) = p + (l + 1 + 1 - 1) from by omega] at this
        exact this
      · intro _
        have := i3 (by omega)
        rw [show p + 1 + (l + 1 - 1) = p + (l + 1 + 1 - 1) from by omega] at this
        exact this
      · rw [sumF_shift, i4, hh]; omega
theorem gX_put {f : Nat → Int} {n p V m : Nat} (hV : V < 18446744073709551616) (h : At f p (uvF 9 V)) (hn : p + (uvF 9 V).length ≤ n) (hm : Cnt f n p m) :
    gX f n m (p : Int) = (V, ((p + (uvF 9 V).length : Nat) : Int), 0) := by
  have hl := uvF_len 9 V
  obtain ⟨i1, i2, i3, i4⟩ := uv_reads 9 V p f (by omega) h
  obtain ⟨l, hl'⟩ : ∃ l, (uvF 9 V).length = l + 1 := ⟨(uvF 9 V).length - 1, by omega⟩
  rw [hl'] at i1 i2 i3 i4 hn hl ⊢
  simp only [Nat.add_sub_cancel] at i2 i3
  have hml : m = l := by
    rcases Nat.lt_trichotomy m l with h1 | h1 | h1
    · have a1 := (i1 m (by omega)).1
      have a2 := hm.2.2 (by omega) (by omega)
      omega
    · exact h1
    · have := (hm.2.1 l h1).2; omega
  subst hml
  have h9 : m = 9 → f (p + m) ≤ 1 := by
    intro e
    subst e
    have e1 : sumF f p (9 + 1) = sumF f p 9 + (f (p + 9) % 128).toNat * 128 ^ 9 := rfl
    rw [e1] at i4
    have e2 : (f (p + 9) % 128).toNat = (f (p + 9)).toNat := by omega
    rw [e2] at i4
    simp only [Nat.reducePow] at i4
    omega
  have hpos : 0 < m → f (p + m) ≠ 0 := by
    intro h0
    refine i3 ?_
    rcases Nat.eq_zero_or_pos V with hv | hv
    · rw [hv, uvF_lt 9 0 (by omega)] at hl'; simp at hl'; omega
    · exact hv
  have hC : guC f n p m = 0 := by
    unfold guC
    rw [if_neg (by omega), if_neg (by rintro ⟨e1, e2⟩; have := h9 e1; omega), if_neg (by rintro ⟨e1, e2⟩; exact hpos e1 e2)]
  rw [gX_in (by omega)]
  unfold guV guA
  rw [hC]
  simp [i4]
  omega
theorem getD_app_left {U W : List Int} {i : Nat} (h : i < U.length) : (U ++ W).getD i 0 = U.getD i 0 := by
  simp [List.getD, h, List.getElem?_append_left]
theorem uv_takes (k : Nat) : ∀ (m p : Nat) (f : Nat → Int), m ≤ k → (∀ i, i < m → 128 ≤ f (p + i) ∧ f (p + i) < 256) → 0 ≤ f (p + m) → f (p + m) < 128 → (0 < m → f (p + m) ≠ 0) →
    uvF k (sumF f p (m + 1)) = (List.range (m + 1)).map (fun i => f (p + i)) := by
  have pos : ∀ (m p : Nat) (f : Nat → Int), 0 ≤ f (p + m) → f (p + m) < 128 → f (p + m) ≠ 0 → 0 < sumF f p (m + 1) := by
    intro m p f h0 h1 h2
    show 0 < sumF f p m + (f (p + m) % 128).toNat * 128 ^ m
    have : 0 < (f (p + m) % 128).toNat * 128 ^ m := Nat.mul_pos (by omega) (Nat.pow_pos (by omega))
    omega
  induction k with
  | zero =>
    intro m p f hm _ h0 h1 _
    obtain rfl : m = 0 := by omega
    have e : sumF f p 1 = (f p).toNat := by simp [sumF]; simp at h0 h1; omega
    rw [show (0 : Nat) + 1 = 1 from rfl, e, uvF_lt 0 _ (by simp at h0 h1; omega)]
    simp at h0 ⊢; omega
  | succ k ih =>
    intro m p f hm hc h0 h1 h2
    rcases Nat.eq_zero_or_pos m with rfl | hpos
    · have e : sumF f p 1 = (f p).toNat := by simp [sumF]; simp at h0 h1; omega
      rw [show (0 : Nat) + 1 = 1 from rfl, e, uvF_lt _ _ (by simp at h0 h1; omega)]
      simp at h0 ⊢; omega
    · obtain ⟨j, rfl⟩ : ∃ j, m = j + 1 := ⟨m - 1, by omega⟩
      have e := sumF_shift f p (j + 1)
      have hp := hc 0 (by omega)
      simp only [Nat.add_zero] at hp
      have q0 : 0 ≤ f (p + 1 + j) := by rw [show p + 1 + j = p + (j + 1) from by omega]; exact h0
      have q1 : f (p + 1 + j) < 128 := by rw [show p + 1 + j = p + (j + 1) from by omega]; exact h1
      have q2 : f (p + 1 + j) ≠ 0 := by rw [show p + 1 + j = p + (j + 1) from by omega]; exact h2 hpos
      have hs := pos j (p + 1) f q0 q1 q2
      have i1 := ih j (p + 1) f (by omega) (fun i hi => by have := hc (i + 1) (by omega); rwa [show p + (i + 1) = p + 1 + i from by omega] at this) q0 q1 (fun _ => q2)
      rw [e, uvF_ge k _ (by omega)]
      have d1 : ((f p % 128).toNat + 128 * sumF f (p + 1) (j + 1)) / 128 = sumF f (p + 1) (j + 1) := by omega
      have d2 : (((128 + ((f p % 128).toNat + 128 * sumF f (p + 1) (j + 1)) % 128 : Nat)) : Int) = f p := by omega
      rw [d1, d2, i1]
      conv => rhs; rw [List.range_succ_eq_map]
      simp only [List.map_cons, List.map_map, Nat.add_zero]
      congr 1
      apply List.map_congr_left
      intro i _
      show f (p + 1 + i) = f (p + (i + 1))
      rw [show p + 1 + i = p + (i + 1) from by omega]
theorem gX_zero {f : Nat → Int} {n m : Nat} {x : Int} (hf : Byt f) (hm : Cnt f n x.toNat m) (h : (gX f n m x).2.2 = 0) :
    ∃ p : Nat, x = (p : Int) ∧ p + m + 1 ≤ n ∧ (gX f n m x).1 < 18446744073709551616 ∧ (gX f n m x).2.1 = ((p + m + 1 : Nat) : Int) ∧ uvF 9 (gX f n m x).1 = (List.range (m + 1)).map (fun i => f (p + i)) := by
  by_cases hx : 0 ≤ x ∧ x < n
  · obtain ⟨p, rfl⟩ : ∃ p : Nat, x = (p : Int) := ⟨x.toNat, by omega⟩
    have hm' : Cnt f n p m := by simpa using hm
    rw [gX_in (by omega)] at h ⊢
    have hC : guC f n p m = 0 := h
    have h1 : ¬ n ≤ p + m := fun h1 => by unfold guC at hC; rw [if_pos h1] at hC; omega
    have h2 : ¬ (m = 9 ∧ 1 < f (p + m)) := fun h2 => by unfold guC at hC; rw [if_neg h1, if_pos h2] at hC; omega
    have h3 : ¬ (0 < m ∧ f (p + m) = 0) := fun h3 => by unfold guC at hC; rw [if_neg h1, if_neg h2, if_pos h3] at hC; omega
    have hV : guV f n p m = sumF f p (m + 1) := by unfold guV; rw [if_pos hC]
    have hA : guA f n p m = p + m + 1 := by unfold guA; rw [if_pos hC]
    have h4 : f (p + m) < 128 := by
      by_cases h9 : m = 9
      · omega
      · exact hm'.2.2 (by omega) (by have := hm'.1; omega)
    refine ⟨p, rfl, by omega, ?_, by show (guA f n p m : Int) = _; rw [hA], ?_⟩
    · show guV f n p m < _
      rw [hV]
      exact sumF_64 hf p m hm'.1 (fun h9 => by omega) (m + 1) (Nat.le_refl _)
    · show uvF 9 (guV f n p m) = _
      rw [hV]
      exact uv_takes 9 m p f hm'.1 (fun i hi => ⟨(hm'.2.1 i hi).2, (hf _).2⟩) (hf _).1 h4 (fun h0 e => h3 ⟨h0, e⟩)
  · rw [gX_out (by omega)] at h; simp at h
end Go.Proofs.YtakmpmhjcngbbaaGreatDoor
namespace Go.Proofs.YtakmpmhjcngbbaaGreatDoor
noncomputable def cN (f : Nat → Int) (n p : Nat) : Nat := (cnt_ex f n p).choose
theorem cN_spec (f : Nat → Int) (n p : Nat) : Cnt f n p (cN f n p) := (cnt_ex f n p).choose_spec
noncomputable def rd (f : Nat → Int) (n x : Nat) (most : Int) : Option (Nat × Nat) :=
  if (gX f n (cN f n x) (x : Int)).2.2 = 0 ∧ ((gX f n (cN f n x) (x : Int)).1 : Int) ≤ most then some ((gX f n (cN f n x) (x : Int)).1, (gX f n (cN f n x) (x : Int)).2.1.toNat) else none
theorem at_range {f : Nat → Int} {x : Nat} {U : List Int} {m : Nat} (h : U = (List.range m).map (fun i => f (x + i))) : At f x U := by
  intro i hi
  subst h
  have hi' : i < m := by simpa using hi
  simp [List.getD, hi']
theorem rd_iff {f : Nat → Int} (hf : Byt f) {n x : Nat} {most : Int} {V x' : Nat} :
    rd f n x most = some (V, x') ↔ V < 18446744073709551616 ∧ (V : Int) ≤ most ∧ At f x (uvF 9 V) ∧ x' = x + (uvF 9 V).length ∧ x' ≤ n := by
  constructor
  · intro h
    unfold rd at h
    split at h
    · rename_i hc
      injection h with h
      injection h with h1 h2
      obtain ⟨p, hp, hpn, h64, hA, hU⟩ := gX_zero hf (by simpa using cN_spec f n x) hc.1
      have hpx : p = x := by omega
      subst hpx
      rw [h1] at h64 hU hc
      have hl : (uvF 9 V).length = cN f n p + 1 := by rw [hU]; simp
      refine ⟨h64, hc.2, at_range hU, ?_, ?_⟩
      · rw [← h2, hA, hl]; simp; omega
      · rw [← h2, hA]; simp; omega
    · cases h
  · rintro ⟨h64, hm, hat, rfl, hn⟩
    have hg := gX_put h64 hat hn (cN_spec f n x)
    unfold rd
    rw [hg]
    simp [hm]
    omega
def encS : Int → List (Int × Int) → List Int
  | _, [] => []
  | least, p :: l => uvF 9 (p.1 - least).toNat ++ uvF 9 (p.2 - p.1).toNat ++ encS (p.2 + 2) l
def okS : Int → List (Int × Int) → Prop
  | _, [] => True
  | least, p :: l => least ≤ p.1 ∧ p.1 ≤ p.2 ∧ p.2 ≤ 1000000000 ∧ okS (p.2 + 2) l
noncomputable def rdSpans (f : Nat → Int) (n : Nat) : Nat → Int → Nat → Option (List (Int × Int) × Nat)
  | 0, _, x => some ([], x)
  | k + 1, least, x => do
    let (skip, x1) ← rd f n x (1000000000 - least)
    let (more, x2) ← rd f n x1 (1000000000 - (least + skip))
    let (l, x3) ← rdSpans f n k (least + skip + more + 2) x2
    some ((least + (skip : Int), least + (skip : Int) + (more : Int)) :: l, x3)
theorem At.app {f : Nat → Int} {x : Nat} {U W : List Int} : At f x (U ++ W) ↔ At f x U ∧ At f (x + U.length) W := by
  constructor
  · intro h
    refine ⟨fun i hi => ?_, fun i hi => ?_⟩
    · have := h i (by simp; omega)
      rw [this, getD_app_left hi]
    · have := h (U.length + i) (by simp; omega)
      rw [Nat.add_assoc, this]
      simp [List.getD, List.getElem?_append_right]
  · rintro ⟨h1, h2⟩ i hi
    by_cases hu : i < U.length
    · rw [h1 i hu, getD_app_left hu]
    · have := h2 (i - U.length) (by simp at hi; omega)
      rw [show x + U.length + (i - U.length) = x + i from by omega] at this
      rw [this]
      simp [List.getD, List.getElem?_append_right (show U.length ≤ i by omega)]
theorem rdSpans_iff {f : Nat → Int} (hf : Byt f) {n : Nat} : ∀ (k : Nat) (least : Int) (x : Nat) (l : List (Int × Int)) (x' : Nat), 0 ≤ least →
    (rdSpans f n k least x = some (l, x') ∧ x ≤ n ↔ l.length = k ∧ okS least l ∧ At f x (encS least l) ∧ x' = x + (encS least l).length ∧ x' ≤ n) := by
  intro k
  induction k with
  | zero =>
    intro least x l x' _
    cases l with
    | nil => simp [rdSpans, encS, okS, At]; omega
    | cons p l => simp [rdSpans]
  | succ k ih =>
    intro least x l x' hl
    cases l with
    | nil =>
      simp only [List.length_nil]
      constructor
      · rintro ⟨h, _⟩
        exfalso
        unfold rdSpans at h
        cases h1 : rd f n x (1000000000 - least) with
        | none => rw [h1] at h; simp at h
        | some a =>
          rw [h1] at h
          simp only [Option.bind_eq_bind, Option.bind_some] at h
          cases h2 : rd f n a.2 (1000000000 - (least + a.1)) with
          | none => rw [h2] at h; simp at h
          | some b =>
            rw [h2] at h
            simp only [Option.bind_some] at h
            cases h3 : rdSpans f n k (least + a.1 + b.1 + 2) b.2 with
            | none => rw [h3] at h; simp at h
            | some c => rw [h3] at h; simp at h
      · rintro ⟨h, _⟩; omega
    | cons p l =>
      obtain ⟨pf, pt⟩ := p
      constructor
      · rintro ⟨h, hxn⟩
        unfold rdSpans at h
        cases h1 : rd f n x (1000000000 - least) with
        | none => rw [h1] at h; simp at h
        | some a =>
          obtain ⟨skip, x1⟩ := a
          rw [h1] at h
          simp only [Option.bind_eq_bind, Option.bind_some] at h
          cases h2 : rd f n x1 (1000000000 - (least + skip)) with
          | none => rw [h2] at h; simp at h
          | some b =>
            obtain ⟨more, x2⟩ := b
            rw [h2] at h
            simp only [Option.bind_some] at h
            cases h3 : rdSpans f n k (least + skip + more + 2) x2 with
            | none => rw [h3] at h; simp at h
            | some c =>
              obtain ⟨l', x3⟩ := c
              rw [h3] at h
              simp only [Option.bind_some, Option.some.injEq, Prod.mk.injEq, List.cons.injEq] at h
              obtain ⟨⟨⟨e1, e2⟩, rfl⟩, rfl⟩ := h
              obtain ⟨s1, s2, s3, s4, s5⟩ := (rd_iff hf).1 h1
              obtain ⟨t1, t2, t3, t4, t5⟩ := (rd_iff hf).1 h2
              obtain ⟨u1, u2, u3, u4, u5⟩ := (ih (least + skip + more + 2) x2 l' x3 (by omega)).1 ⟨h3, t5⟩
              subst e1 e2
              have q1 : (least + (skip : Int) - least).toNat = skip := by omega
              have q2 : (least + (skip : Int) + (more : Int) - (least + (skip : Int))).toNat = more := by omega
              refine ⟨by simp [u1], ⟨by show least ≤ least + (skip : Int); omega, by show least + (skip : Int) ≤ _; omega, by show least + (skip : Int) + (more : Int) ≤ _; omega, u2⟩, ?_, ?_, u5⟩
              · show At f x (uvF 9 _ ++ uvF 9 _ ++ encS _ l')
                simp only [q1, q2]
                rw [At.app, At.app]
                refine ⟨⟨s3, by rw [← s4]; exact t3⟩, ?_⟩
                rw [List.length_append, ← Nat.add_assoc, ← s4, ← t4]
                exact u3
              · show x3 = x + (uvF 9 _ ++ uvF 9 _ ++ encS _ l').length
                simp only [q1, q2, List.length_append]
                rw [u4, t4, s4]; omega
      · rintro ⟨h1, ⟨o1, o2, o3, o4⟩, h3, h4, h5⟩
        have o1' : least ≤ pf := o1
        have o2' : pf ≤ pt := o2
        have o3' : pt ≤ 1000000000 := o3
        have h3' : At f x (uvF 9 (pf - least).toNat ++ uvF 9 (pt - pf).toNat ++ encS (pt + 2) l) := h3
        have h4' : x' = x + (uvF 9 (pf - least).toNat ++ uvF 9 (pt - pf).toNat ++ encS (pt + 2) l).length := h4
        rw [At.app, At.app] at h3'
        rw [List.length_append, List.length_append] at h4'
        obtain ⟨⟨a1, a2⟩, a3⟩ := h3'
        rw [List.length_append, ← Nat.add_assoc] at a3
        have b1 : rd f n x (1000000000 - least) = some ((pf - least).toNat, x + (uvF 9 (pf - least).toNat).length) := (rd_iff hf).2 ⟨by omega, by omega, a1, rfl, by omega⟩
        have e1 : least + (((pf - least).toNat : Nat) : Int) = pf := by omega
        have b2 : rd f n (x + (uvF 9 (pf - least).toNat).length) (1000000000 - (least + (((pf - least).toNat : Nat) : Int))) = some ((pt - pf).toNat, x + (uvF 9 (pf - least).toNat).length + (uvF 9 (pt - pf).toNat).length) := (rd_iff hf).2 ⟨by omega, by omega, a2, rfl, by omega⟩
        have e2 : least + (((pf - least).toNat : Nat) : Int) + (((pt - pf).toNat : Nat) : Int) = pt := by omega
        have b3 := ((ih (pt + 2) (x + (uvF 9 (pf - least).toNat).length + (uvF 9 (pt - pf).toNat).length) l x' (by omega)).2 ⟨by simpa using h1, o4, a3, by omega, h5⟩).1
        refine ⟨?_, by omega⟩
        unfold rdSpans
        rw [b1]
        simp only [Option.bind_eq_bind, Option.bind_some]
        rw [b2]
        simp only [Option.bind_some, e2]
        rw [b3]
        simp only [Option.bind_some, e1, e2]
def encR : List (Int × List (Int × Int)) → List Int
  | [] => []
  | p :: g => uvF 9 p.1.toNat ++ uvF 9 p.2.length ++ encS 1 p.2 ++ encR g
def okR : Int → Int → List (Int × List (Int × Int)) → Prop
  | _, _, [] => True
  | before, left, p :: g => before < p.1 ∧ 0 ≤ p.1 ∧ p.1 ≤ 7 ∧ p.2 ≠ [] ∧ (p.2.length : Int) ≤ left ∧ okS 1 p.2 ∧ okR p.1 (left - p.2.length) g
noncomputable def rdReps (f : Nat → Int) (n : Nat) : Nat → Int → Int → Nat → Option (List (Int × List (Int × Int)) × Nat)
  | 0, _, _, x => some ([], x)
  | k + 1, before, left, x =>
    (rd f n x 7).bind fun a =>
      if (a.1 : Int) ≤ before then none else
      (rd f n a.2 left).bind fun b =>
        if b.1 = 0 then none else
        (rdSpans f n b.1 1 b.2).bind fun c =>
          (rdReps f n k (a.1 : Int) (left - (b.1 : Int)) c.2).bind fun d => some (((a.1 : Int), c.1) :: d.1, d.2)
theorem rdReps_iff {f : Nat → Int} (hf : Byt f) {n : Nat} : ∀ (k : Nat) (before left : Int) (x : Nat) (g : List (Int × List (Int × Int))) (x' : Nat), left ≤ 1000 →
    (rdReps f n k before left x = some (g, x') ∧ x ≤ n ↔ g.length = k ∧ okR before left g ∧ At f x (encR g) ∧ x' = x + (encR g).length ∧ x' ≤ n) := by
  intro k
  induction k with
  | zero =>
    intro before left x g x' _
    cases g with
    | nil => simp [rdReps, encR, okR, At]; omega
    | cons p g => simp [rdReps]
  | succ k ih =>
    intro before left x g x' hleft
    constructor
    · rintro ⟨h, hxn⟩
      unfold rdReps at h
      obtain ⟨a, h1, h⟩ := Option.bind_eq_some_iff.1 h
      split at h
      · cases h
      · rename_i hab
        obtain ⟨b, h2, h⟩ := Option.bind_eq_some_iff.1 h
        split at h
        · cases h
        · rename_i hb0
          obtain ⟨c, h3, h⟩ := Option.bind_eq_some_iff.1 h
          obtain ⟨d, h4, h⟩ := Option.bind_eq_some_iff.1 h
          obtain ⟨rep, x1⟩ := a
          obtain ⟨cnt, x2⟩ := b
          obtain ⟨l, x3⟩ := c
          obtain ⟨g', x4⟩ := d
          simp only [Option.some.injEq, Prod.mk.injEq] at h
          obtain ⟨rfl, rfl⟩ := h
          dsimp only at h1 h2 h3 h4 hab hb0
          obtain ⟨s1, s2, s3, s4, s5⟩ := (rd_iff hf).1 h1
          obtain ⟨t1, t2, t3, t4, t5⟩ := (rd_iff hf).1 h2
          obtain ⟨u1, u2, u3, u4, u5⟩ := (rdSpans_iff hf cnt 1 x2 l x3 (by omega)).1 ⟨h3, t5⟩
          obtain ⟨v1, v2, v3, v4, v5⟩ := (ih rep (left - cnt) x3 g' x4 (by omega)).1 ⟨h4, u5⟩
          have hl0 : l ≠ [] := by intro e; subst e; simp at u1; omega
          refine ⟨by simp [v1], ⟨by show before < (rep : Int); omega, by show (0 : Int) ≤ (rep : Int); omega, by show (rep : Int) ≤ 7; omega, hl0, by show ((l.length : Nat) : Int) ≤ left; omega, u2, ?_⟩, ?_, ?_, v5⟩
          · show okR (rep : Int) (left - ((l.length : Nat) : Int)) g'
            rw [u1]; exact v2
          · show At f x (uvF 9 ((rep : Int)).toNat ++ uvF 9 l.length ++ encS 1 l ++ encR g')
            rw [Int.toNat_natCast, u1, At.app, At.app, At.app]
            simp only [List.length_append, ← Nat.add_assoc]
            rw [← s4, ← t4, ← u4]
            exact ⟨⟨⟨s3, t3⟩, u3⟩, v3⟩
          · show x4 = x + (uvF 9 ((rep : Int)).toNat ++ uvF 9 l.length ++ encS 1 l ++ encR g').length
            rw [Int.toNat_natCast, u1]
            simp only [List.length_append]
            rw [v4, u4, t4, s4]; omega
    · rintro ⟨h1, h2, h3, h4, h5⟩
      cases g with
      | nil => simp at h1
      | cons p g =>
        obtain ⟨r, l⟩ := p
        obtain ⟨o1, o2, o3, o4, o5, o6, o7⟩ := h2
        have o1' : before < r := o1
        have o2' : 0 ≤ r := o2
        have o3' : r ≤ 7 := o3
        have o4' : l ≠ [] := o4
        have o5' : ((l.length : Nat) : Int) ≤ left := o5
        have o7' : okR r (left - ((l.length : Nat) : Int)) g := o7
        have h3' : At f x (uvF 9 r.toNat ++ uvF 9 l.length ++ encS 1 l ++ encR g) := h3
        have h4' : x' = x + (uvF 9 r.toNat ++ uvF 9 l.length ++ encS 1 l ++ encR g).length := h4
        rw [At.app, At.app, At.app] at h3'
        simp only [List.length_append, ← Nat.add_assoc] at h3' h4'
        obtain ⟨⟨⟨a1, a2⟩, a3⟩, a4⟩ := h3'
        have hlen : 0 < l.length := List.length_pos_iff.2 o4'
        have b1 : rd f n x 7 = some (r.toNat, x + (uvF 9 r.toNat).length) := (rd_iff hf).2 ⟨by omega, by omega, a1, rfl, by omega⟩
        have b2 : rd f n (x + (uvF 9 r.toNat).length) left = some (l.length, x + (uvF 9 r.toNat).length + (uvF 9 l.length).length) := (rd_iff hf).2 ⟨by omega, by omega, a2, rfl, by omega⟩
        have b3 := ((rdSpans_iff (n := n) hf l.length 1 (x + (uvF 9 r.toNat).length + (uvF 9 l.length).length) l (x + (uvF 9 r.toNat).length + (uvF 9 l.length).length + (encS 1 l).length) (by omega)).2 ⟨rfl, o6, a3, rfl, by omega⟩).1
        have er : ((r.toNat : Nat) : Int) = r := by omega
        have b4 := ((ih r (left - ((l.length : Nat) : Int)) (x + (uvF 9 r.toNat).length + (uvF 9 l.length).length + (encS 1 l).length) g x' (by omega)).2 ⟨by simpa using h1, o7', a4, by omega, h5⟩).1
        refine ⟨?_, by omega⟩
        unfold rdReps
        rw [b1, Option.bind_some, if_neg (by show ¬ ((r.toNat : Nat) : Int) ≤ before; omega), b2, Option.bind_some, if_neg (by show ¬ l.length = 0; omega), b3, Option.bind_some]
        dsimp only
        rw [er, b4, Option.bind_some]
noncomputable def rdCtx (f : Nat → Int) (n x : Nat) : Option (List (Int × List (Int × Int)) × Nat) :=
  (rd f n x 8).bind fun a => rdReps f n a.1 (-1) 1000 a.2
def encC (g : List (Int × List (Int × Int))) : List Int := uvF 9 g.length ++ encR g
theorem okR_len : ∀ (g : List (Int × List (Int × Int))) (before left : Int), okR before left g → -1 ≤ before → before ≤ 7 → (g.length : Int) ≤ 7 - before := by
  intro g
  induction g with
  | nil => intro before left _ h1 h2; simp; omega
  | cons p g ih =>
    rintro before left ⟨o1, o2, o3, o4, o5, o6, o7⟩ h1 h2
    have := ih p.1 _ o7 (by omega) (by omega)
    simp only [List.length_cons]
    omega
theorem rdCtx_iff {f : Nat → Int} (hf : Byt f) {n x : Nat} (hx : x ≤ n) {g : List (Int × List (Int × Int))} {x' : Nat} :
    rdCtx f n x = some (g, x') ↔ okR (-1) 1000 g ∧ At f x (encC g) ∧ x' = x + (encC g).length ∧ x' ≤ n := by
  constructor
  · intro h
    obtain ⟨⟨cnt, x1⟩, h1, h2⟩ := Option.bind_eq_some_iff.1 h
    dsimp only at h2
    obtain ⟨s1, s2, s3, s4, s5⟩ := (rd_iff hf).1 h1
    obtain ⟨v1, v2, v3, v4, v5⟩ := (rdReps_iff hf cnt (-1) 1000 x1 g x' (by omega)).1 ⟨h2, s5⟩
    unfold encC
    rw [v1, At.app, List.length_append, ← s4]
    exact ⟨v2, ⟨s3, v3⟩, by omega, v5⟩
  · rintro ⟨h1, h2, h3, h4⟩
    unfold encC at h2 h3
    rw [At.app] at h2
    rw [List.length_append] at h3
    have hl := okR_len g (-1) 1000 h1 (by omega) (by omega)
    have b1 : rd f n x 8 = some (g.length, x + (uvF 9 g.length).length) := (rd_iff hf).2 ⟨by omega, by omega, h2.1, rfl, by omega⟩
    have b2 := ((rdReps_iff (n := n) hf g.length (-1) 1000 (x + (uvF 9 g.length).length) g x' (by omega)).2 ⟨rfl, h1, h2.2, by omega, h4⟩).1
    unfold rdCtx
    rw [b1, Option.bind_some]
    exact b2
end Go.Proofs.YtakmpmhjcngbbaaGreatDoor
