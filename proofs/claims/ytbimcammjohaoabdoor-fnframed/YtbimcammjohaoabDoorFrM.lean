import Derived.Test.YtbimcammjohaoabDoorChM
namespace Go.Proofs.YtbimcammjohaoabDoor
open Go.ChangeShapes Go.WideShapes Go.ChangeAt Go.RowKit
set_option linter.unusedVariables false
set_option linter.unusedSimpArgs false

theorem cstep_inj {x y : Nat} (hx : x < 4294967296) (hy : y < 4294967296) (h : cstep x = cstep y) : x = y := by
  have top : ∀ a b : Nat, a < 2 ^ 31 → b < 2 ^ 31 → a ^^^ 3988292384 ≠ b := fun a b ha hb e => by
    have h1 : (a ^^^ 3988292384).testBit 31 = true := by
      rw [Nat.testBit_xor, Nat.testBit_lt_two_pow ha]; decide
    rw [e, Nat.testBit_lt_two_pow hb] at h1
    cases h1
  unfold cstep at h
  by_cases h1 : x % 2 = 1
  · by_cases h2 : y % 2 = 1
    · rw [if_pos h1, if_pos h2] at h
      have e : x / 2 = y / 2 := by
        have := congrArg (fun z => z ^^^ 3988292384) h
        simpa [Nat.xor_assoc] using this
      omega
    · rw [if_pos h1, if_neg h2] at h
      exact absurd h (top _ _ (by omega) (by omega))
  · by_cases h2 : y % 2 = 1
    · rw [if_neg h1, if_pos h2] at h
      exact absurd h.symm (top _ _ (by omega) (by omega))
    · rw [if_neg h1, if_neg h2] at h
      omega
theorem citer_inj : ∀ k {x y : Nat}, x < 4294967296 → y < 4294967296 → citer k x = citer k y → x = y
  | 0, _, _, _, _, h => h
  | k + 1, x, y, hx, hy, h => citer_inj k hx hy (cstep_inj (citer_lt k x hx) (citer_lt k y hy) h)
theorem xor_left_inj {a b c : Nat} (h : a ^^^ b = a ^^^ c) : b = c := by
  have := congrArg (fun z => a ^^^ z) h
  simpa [← Nat.xor_assoc] using this
theorem xor_right_inj {a b c : Nat} (h : b ^^^ a = c ^^^ a) : b = c := xor_left_inj (a := a) (by rw [Nat.xor_comm a b, Nat.xor_comm a c]; exact h)
theorem crcI_far {f g : Nat → Int} (hf : Byt f) (hg : Byt g) (p : Nat) (hp : f p ≠ g p) : ∀ k, p < k → (∀ i, i < k → i ≠ p → f i = g i) → crcI f k ≠ crcI g k
  | 0, h, _ => absurd h (by omega)
  | k + 1, hk, he => fun e => by
    have lf := crcI_lt f hf k
    have lg := crcI_lt g hg k
    have bf : (f k).toNat < 256 := by have := hf k; omega
    have bg : (g k).toNat < 256 := by have := hg k; omega
    have e2 := citer_inj 8 (Nat.xor_lt_two_pow (n := 32) lf (by omega)) (Nat.xor_lt_two_pow (n := 32) lg (by omega)) (show citer 8 (crcI f k ^^^ (f k).toNat) = citer 8 (crcI g k ^^^ (g k).toNat) from e)
    by_cases h : p = k
    · subst h
      rw [crcI_congr p (fun i hi => he i (by omega) (by omega))] at e2
      have h3 := xor_left_inj e2
      have := hf p
      have := hg p
      exact hp (by omega)
    · rw [he k (by omega) (fun e => h e.symm)] at e2
      exact crcI_far hf hg p hp k (by omega) (fun i hi hne => he i (by omega) hne) (xor_right_inj e2)
theorem crcEnd_nat (x : Nat) (h : x < 4294967296) : crcEnd (x : Int) = ((x ^^^ 4294967295 : Nat) : Int) := by
  unfold crcEnd
  rw [show (4294967295 : Int) = ((4294967295 : Nat) : Int) from rfl, u32_xor_nat _ _ h (by omega)]
theorem crcEnd_inj {x y : Nat} (hx : x < 4294967296) (hy : y < 4294967296) (h : crcEnd (x : Int) = crcEnd (y : Int)) : x = y := by
  rw [crcEnd_nat x hx, crcEnd_nat y hy] at h
  exact xor_right_inj (Int.ofNat.inj h)

theorem head_put {f : Nat → Int} {k : Int} {pf : Nat → Int} {n N : Nat} (hk1 : 1 ≤ k) (hk3 : k ≤ 3) (hn : n ≤ 4000) (h : ∀ i, i < 3 + (uvF 9 n).length → f i = gz (frB k pf n) i) (hN : 3 + (uvF 9 n).length ≤ N) : headF f N = (0, 3 + (uvF 9 n).length, n) := by
  have hg : ∀ i, i < 3 + (uvF 9 n).length → gz (frB k pf n) i = ([199, 1, k] ++ uvF 9 n).getD i 0 := fun i hi => by
    unfold gz frB preF
    rw [getD_app_l (by simp; omega), getD_app_l (by simp; omega)]
  have hu := uvF_len 9 n
  have f0 : f 0 = 199 := by rw [h 0 (by omega), hg 0 (by omega)]; rfl
  have f1 : f 1 = 1 := by rw [h 1 (by omega), hg 1 (by omega)]; rfl
  have f2 : f 2 = k := by rw [h 2 (by omega), hg 2 (by omega)]; rfl
  have hat : At f 3 (uvF 9 n) := fun i hi => by
    rw [h (3 + i) (by omega), hg (3 + i) (by omega), getD_app_r (by simp)]
    congr 1
    simp
  have hl : lenX f N = (n, ((3 + (uvF 9 n).length : Nat) : Int), 0) := gX_put (p := 3) (by omega) hat hN (cM_spec f N 3)
  unfold headF
  rw [if_neg (by rw [f0]; simp), if_neg (by rw [f1]; simp), if_neg (by omega), if_neg (by rw [f2]; omega), hl]
  dsimp only
  rw [if_neg (by omega), if_neg (by omega)]
  simp
  omega
theorem frB_congr {k : Int} {f g : Nat → Int} {n : Nat} (h : ∀ i, i < n → f i = g i) : frB k f n = frB k g n := by
  have : payl f n = payl g n := by unfold payl; exact List.map_congr_left (fun i hi => h i (List.mem_range.1 hi))
  unfold frB preF
  rw [this]
theorem frB_length (k : Int) (f : Nat → Int) (n : Nat) : (frB k f n).length = 3 + (uvF 9 n).length + n + 4 := by
  unfold frB preF
  simp [sum4, payl]
  omega
theorem frB_pay (k : Int) (pf : Nat → Int) (n i : Nat) (hi : i < n) : gz (frB k pf n) (3 + (uvF 9 n).length + i) = pf i := by
  have hl : ([199, 1, k] ++ uvF 9 n).length = 3 + (uvF 9 n).length := by simp; omega
  unfold gz frB preF
  rw [getD_app_l (by rw [List.length_append, hl, payl_len]; omega), getD_app_r (by rw [hl]; omega), hl, Nat.add_sub_cancel_left]
  simp [payl, List.getD, hi]
theorem first_put {f : Nat → Int} (hf : Byt f) {k : Int} {pf : Nat → Int} {n N : Nat} (hk1 : 1 ≤ k) (hk3 : k ≤ 3) (hn : n ≤ 4000) (h : ∀ i, i < (frB k pf n).length → f i = gz (frB k pf n) i) (hN : (frB k pf n).length ≤ N) :
    firstF f N = (0, (frB k pf n).length) ∧ headF f N = (0, 3 + (uvF 9 n).length, n) := by
  have hL := frB_length k pf n
  have hu := uvF_len 9 n
  have hh := head_put (f := f) (pf := pf) (N := N) hk1 hk3 hn (fun i hi => h i (by omega)) (by omega)
  refine ⟨?_, hh⟩
  have f2 : f 2 = k := by
    rw [h 2 (by omega)]
    unfold gz frB preF
    rw [getD_app_l (by simp), getD_app_l (by simp)]; rfl
  have hs : sumOk f (3 + (uvF 9 n).length + n) (sumX f (3 + (uvF 9 n).length + n)) := (sumOk_iff hf hh (by omega)).2 (fun i hi => by
    rw [f2, frB_congr (g := pf) (fun j hj => by rw [h _ (by omega), frB_pay k pf n j hj])]
    exact (h i (by omega)).symm)
  unfold firstF
  rw [hh]
  simp only [ne_eq, not_true_eq_false, ↓reduceIte]
  rw [if_neg (by omega), if_pos hs, hL]

theorem first_bad {f : Nat → Int} (hf : Byt f) {k : Int} {pf : Nat → Int} (hpf : Byt pf) {n N o : Nat} (hk1 : 1 ≤ k) (hk3 : k ≤ 3) (hn : n ≤ 4000) (ho : o < (frB k pf n).length) (hlo : o < 3 ∨ 3 + (uvF 9 n).length ≤ o) (h : ∀ i, i < (frB k pf n).length → i ≠ o → f i = gz (frB k pf n) i) (hne : f o ≠ gz (frB k pf n) o) (hN : (frB k pf n).length ≤ N) :
    ∃ x, x ≠ 0 ∧ firstF f N = (x, 0) := by
  have hL := frB_length k pf n
  have hu := uvF_len 9 n
  obtain ⟨b, hb⟩ : ∃ b, gz (frB k pf n) = b := ⟨_, rfl⟩
  have hbB : Byt b := by
    rw [← hb]
    refine gz_byte (fun z hz => ?_)
    have hp := preF_byte hpf hk1 hk3 (n := n) (by omega)
    have hV := crc_u32 (gz_byte hp) (preF k pf n).length
    unfold frB at hz
    rcases List.mem_append.1 hz with hz | hz
    · exact hp z hz
    · simp [sum4] at hz; omega
  have hfull := first_put (f := b) hbB (pf := pf) (N := N) hk1 hk3 hn (fun i _ => by rw [hb]) hN
  rw [hb] at h hne
  have g0 : b 0 = 199 := by
    rw [← hb]; unfold gz frB preF
    rw [getD_app_l (by simp), getD_app_l (by simp)]; rfl
  have g1 : b 1 = 1 := by
    rw [← hb]; unfold gz frB preF
    rw [getD_app_l (by simp), getD_app_l (by simp)]; rfl
  have g2 : b 2 = k := by
    rw [← hb]; unfold gz frB preF
    rw [getD_app_l (by simp), getD_app_l (by simp)]; rfl
  have mk1 : ∀ x, headF f N = (x, 0, 0) → x ≠ 0 → ∃ x, x ≠ 0 ∧ firstF f N = (x, 0) := fun x e hx => ⟨x, hx, by unfold firstF; rw [e]; simp [hx]⟩
  by_cases o0 : o = 0
  · subst o0
    rw [g0] at hne
    refine mk1 1 ?_ (by omega)
    unfold headF; rw [if_pos ⟨by omega, hne⟩]
  have f0 : f 0 = 199 := by rw [h 0 (by omega) (fun e => o0 e.symm), g0]
  by_cases o1 : o = 1
  · subst o1
    rw [g1] at hne
    refine mk1 2 ?_ (by omega)
    unfold headF; rw [if_neg (by rw [f0]; simp), if_pos ⟨by omega, hne⟩]
  have f1 : f 1 = 1 := by rw [h 1 (by omega) (fun e => o1 e.symm), g1]
  have hl : lenX f N = (n, ((3 + (uvF 9 n).length : Nat) : Int), 0) := by
    refine gX_put (p := 3) (by omega) (fun i hi => ?_) (by omega) (cM_spec f N 3)
    rw [h (3 + i) (by omega) (by omega), ← hb]
    unfold gz frB preF
    rw [getD_app_l (by simp; omega), getD_app_l (by simp; omega), getD_app_r (by simp)]
    congr 1
    simp
  by_cases hkk : f 2 < 1 ∨ 3 < f 2
  · refine mk1 3 ?_ (by omega)
    unfold headF; rw [if_neg (by rw [f0]; simp), if_neg (by rw [f1]; simp), if_neg (by omega), if_pos hkk]
  have hh : headF f N = (0, 3 + (uvF 9 n).length, n) := by
    unfold headF
    rw [if_neg (by rw [f0]; simp), if_neg (by rw [f1]; simp), if_neg (by omega), if_neg hkk, hl]
    dsimp only
    rw [if_neg (by omega), if_neg (by omega)]
    simp
    omega
  have hs0 : sumOk b (3 + (uvF 9 n).length + n) (sumX b (3 + (uvF 9 n).length + n)) := by
    have hbh := hfull.2
    exact (sumOk_iff hbB hbh (by omega)).2 (fun i hi => by
      rw [g2, frB_congr (g := pf) (fun j hj => by rw [← hb, frB_pay k pf n j hj]), hb])
  have hbad : ¬ sumOk f (3 + (uvF 9 n).length + n) (sumX f (3 + (uvF 9 n).length + n)) := fun hs => by
    obtain ⟨K, hK⟩ : ∃ K, 3 + (uvF 9 n).length + n = K := ⟨_, rfl⟩
    rw [hK] at hs hs0 hL
    by_cases hoK : o < K
    · have hcr := crcI_far hf hbB o hne K hoK (fun i hi hne => h i (by omega) hne)
      have hE : ¬ sumX f K = sumX b K := fun e => hcr (crcEnd_inj (crcI_lt f hf K) (crcI_lt b hbB K) e)
      have v1 := crc_u32 hf K
      have v2 := crc_u32 hbB K
      obtain ⟨s0, s1, s2, s3⟩ := hs
      obtain ⟨t0, t1, t2, t3⟩ := hs0
      rw [h K (by omega) (by omega)] at s0
      rw [h (K + 1) (by omega) (by omega)] at s1
      rw [h (K + 2) (by omega) (by omega)] at s2
      rw [h (K + 3) (by omega) (by omega)] at s3
      have v1' : 0 ≤ sumX f K ∧ sumX f K < 4294967296 := v1
      have v2' : 0 ≤ sumX b K ∧ sumX b K < 4294967296 := v2
      apply hE
      omega
    · have hE : sumX f K = sumX b K := by unfold sumX; rw [crcI_congr K (fun i hi => h i (by omega) (by omega))]
      rw [hE] at hs
      obtain ⟨s0, s1, s2, s3⟩ := hs
      obtain ⟨t0, t1, t2, t3⟩ := hs0
      rcases (show o = K ∨ o = K + 1 ∨ o = K + 2 ∨ o = K + 3 by omega) with e | e | e | e <;> subst e
      · exact hne (s0.trans t0.symm)
      · exact hne (s1.trans t1.symm)
      · exact hne (s2.trans t2.symm)
      · exact hne (s3.trans t3.symm)
  refine ⟨5, by omega, ?_⟩
  unfold firstF
  rw [hh]
  simp only [ne_eq, not_true_eq_false, ↓reduceIte]
  rw [if_neg (by omega), if_neg hbad]
end Go.Proofs.YtbimcammjohaoabDoor
