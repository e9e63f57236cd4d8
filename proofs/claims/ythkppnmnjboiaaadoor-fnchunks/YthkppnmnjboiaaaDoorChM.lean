import Derived.Test.YthkppnmnjboiaaaDoorFm
namespace Go.Proofs.YthkppnmnjboiaaaDoor
open Go.ChangeShapes Go.WideShapes Go.ChangeAt Go.RowKit
set_option linter.unusedVariables false
set_option linter.unusedSimpArgs false

theorem cnt_uniq {f : Nat → Int} {n p m1 m2 : Nat} (h1 : Cnt f n p m1) (h2 : Cnt f n p m2) : m1 = m2 := by
  obtain ⟨a1, b1, c1⟩ := h1
  obtain ⟨a2, b2, c2⟩ := h2
  rcases Nat.lt_trichotomy m1 m2 with h | h | h
  · have := b2 m1 h; have := c1 this.1 (by omega); omega
  · exact h
  · have := b1 m2 h; have := c2 this.1 (by omega); omega

theorem lenX_stable {g : Nat → Int} {n n' : Nat} (hn : n ≤ n') (h : (lenX g n).2.2 ≠ 1) : lenX g n' = lenX g n ∧ 3 + cM g n 3 < n := by
  have hc := cM_spec g n 3
  have h3 : 3 < n := by
    rcases Nat.lt_or_ge 3 n with h3 | h3
    · exact h3
    · exfalso; apply h; unfold lenX; rw [gX_out (.inr (by omega))]
  have e : lenX g n = (guV g n 3 (cM g n 3), (guA g n 3 (cM g n 3) : Int), guC g n 3 (cM g n 3)) := by
    unfold lenX
    have := gX_in (f := g) (n := n) (m := cM g n 3) (p := 3) h3
    rw [show ((3 : Nat) : Int) = 3 from rfl] at this
    exact this
  have hlt : 3 + cM g n 3 < n := by
    rcases Nat.lt_or_ge (3 + cM g n 3) n with h4 | h4
    · exact h4
    · exfalso; apply h; rw [e]; show guC g n 3 (cM g n 3) = 1; unfold guC; rw [if_pos h4]
  have hc' : Cnt g n' 3 (cM g n 3) := ⟨hc.1, fun k hk => ⟨by have := (hc.2.1 k hk).1; omega, (hc.2.1 k hk).2⟩, fun _ h9 => hc.2.2 hlt h9⟩
  have hm : cM g n' 3 = cM g n 3 := cnt_uniq (cM_spec g n' 3) hc'
  have e' : lenX g n' = (guV g n' 3 (cM g n 3), (guA g n' 3 (cM g n 3) : Int), guC g n' 3 (cM g n 3)) := by
    unfold lenX
    rw [hm]
    have := gX_in (f := g) (n := n') (m := cM g n 3) (p := 3) (by omega)
    rw [show ((3 : Nat) : Int) = 3 from rfl] at this
    exact this
  have hC : guC g n' 3 (cM g n 3) = guC g n 3 (cM g n 3) := by
    unfold guC; rw [if_neg (show ¬ n' ≤ 3 + cM g n 3 by omega), if_neg (show ¬ n ≤ 3 + cM g n 3 by omega)]
  have hV : guV g n' 3 (cM g n 3) = guV g n 3 (cM g n 3) := by unfold guV; rw [hC]
  have hA : guA g n' 3 (cM g n 3) = guA g n 3 (cM g n 3) := by unfold guA; rw [hC]
  exact ⟨by rw [e', e, hC, hV, hA], hlt⟩
theorem headF_stable {g : Nat → Int} {n n' : Nat} (hn : n ≤ n') (h : (headF g n).1 ≠ 0 ∨ (headF g n).2.1 ≠ 0) : headF g n' = headF g n := by
  unfold headF at h ⊢
  by_cases h0 : 1 ≤ n ∧ g 0 ≠ 199
  · rw [if_pos h0, if_pos ⟨by omega, h0.2⟩]
  rw [if_neg h0] at h
  by_cases h1 : 2 ≤ n ∧ g 1 ≠ 1
  · rw [if_neg h0, if_pos h1]
    rw [if_neg (fun hh => h0 ⟨by omega, hh.2⟩), if_pos ⟨by omega, h1.2⟩]
  rw [if_neg h1] at h
  by_cases h2 : n < 3
  · rw [if_pos h2] at h; simp at h
  rw [if_neg h2] at h
  have k0 : ¬ (1 ≤ n' ∧ g 0 ≠ 199) := fun hh => h0 ⟨by omega, hh.2⟩
  have k1 : ¬ (2 ≤ n' ∧ g 1 ≠ 1) := fun hh => h1 ⟨by omega, hh.2⟩
  rw [if_neg h0, if_neg h1, if_neg h2, if_neg k0, if_neg k1, if_neg (by omega)]
  by_cases h3 : g 2 < 1 ∨ 3 < g 2
  · rw [if_pos h3, if_pos h3]
  rw [if_neg h3] at h ⊢
  rw [if_neg h3]
  by_cases h4 : (lenX g n).2.2 = 1
  · rw [if_pos h4] at h; simp at h
  rw [(lenX_stable hn h4).1]
theorem firstF_stable {g : Nat → Int} {n n' : Nat} (hn : n ≤ n') (h : (firstF g n).1 ≠ 0 ∨ (firstF g n).2 ≠ 0) : firstF g n' = firstF g n ∧ headF g n' = headF g n := by
  unfold firstF at h
  by_cases h1 : (headF g n).1 ≠ 0
  · have e := headF_stable hn (.inl h1)
    refine ⟨?_, e⟩
    unfold firstF; rw [e]; rw [if_pos h1, if_pos h1]
  rw [if_neg h1] at h
  by_cases h2 : (headF g n).2.1 = 0 ∨ n < (headF g n).2.1 + (headF g n).2.2 + 4
  · rw [if_pos h2] at h; simp at h
  have e := headF_stable hn (.inr (fun hh => h2 (.inl hh)))
  refine ⟨?_, e⟩
  unfold firstF; rw [e, if_neg h1, if_neg h1, if_neg h2, if_neg (by omega)]

theorem feedF_app (f : Nat → Int) (N N' : Nat) (hN : N ≤ N') : ∀ k p, N - p < k → p ≤ N →
    ((feedF f N p).1 = 0 → feedF f N' p = ((feedF f N' (feedF f N p).2.1).1, (feedF f N' (feedF f N p).2.1).2.1, (feedF f N p).2.2 ++ (feedF f N' (feedF f N p).2.1).2.2))
    ∧ ((feedF f N p).1 ≠ 0 → feedF f N' p = feedF f N p)
  | 0, _, h, _ => absurd h (by omega)
  | k + 1, p, h, hp => by
    by_cases h0 : (firstF (shF f p) (N - p)).2 = 0
    · rw [feedF_stop h0]
      refine ⟨fun _ => by simp, fun hx => ?_⟩
      have e := (firstF_stable (g := shF f p) (n := N - p) (n' := N' - p) (by omega) (.inl hx)).1
      rw [feedF_stop (by rw [e]; exact h0), e]
    · have hle := firstF_le (shF f p) (N - p)
      obtain ⟨e, eh⟩ := firstF_stable (g := shF f p) (n := N - p) (n' := N' - p) (by omega) (.inr h0)
      have ef : frameF f N' p = frameF f N p := by unfold frameF; rw [eh]
      have ih := feedF_app f N N' hN k (p + (firstF (shF f p) (N - p)).2) (by omega) (by omega)
      have g' := feedF_go (f := f) (N := N') (p := p) (by rw [e]; exact h0)
      rw [e, ef] at g'
      rw [feedF_go h0]
      dsimp only
      obtain ⟨T, hT⟩ : ∃ T, feedF f N (p + (firstF (shF f p) (N - p)).2) = T := ⟨_, rfl⟩
      obtain ⟨T', hT'⟩ : ∃ T', feedF f N' (p + (firstF (shF f p) (N - p)).2) = T' := ⟨_, rfl⟩
      rw [hT, hT'] at ih
      rw [hT'] at g'
      rw [hT, g']
      refine ⟨fun hx => ?_, fun hx => ?_⟩
      · have := ih.1 hx
        rw [this]
        simp only [List.cons_append]
      · have := ih.2 hx
        rw [this]
theorem headF_sh (f : Nat → Int) (p q n : Nat) : headF (shF (shF f p) q) n = headF (shF f (p + q)) n := by rw [shF_shF]

theorem feedF_sh (f : Nat → Int) (N p : Nat) : ∀ k q, N - p - q < k → p + q ≤ N → feedF f N (p + q) = ((feedF (shF f p) (N - p) q).1, p + (feedF (shF f p) (N - p) q).2.1, (feedF (shF f p) (N - p) q).2.2)
  | 0, _, h, _ => absurd h (by omega)
  | k + 1, q, h, hp => by
    have es : firstF (shF (shF f p) q) (N - p - q) = firstF (shF f (p + q)) (N - (p + q)) := by rw [shF_shF, Nat.sub_sub]
    by_cases h0 : (firstF (shF f (p + q)) (N - (p + q))).2 = 0
    · rw [feedF_stop h0, feedF_stop (by rw [es]; exact h0), es]
    · have hle := firstF_le (shF f (p + q)) (N - (p + q))
      have ih := feedF_sh f N p k (q + (firstF (shF f (p + q)) (N - (p + q))).2) (by omega) (by omega)
      have g' := feedF_go (f := shF f p) (N := N - p) (p := q) (by rw [es]; exact h0)
      rw [es] at g'
      have ef : frameF (shF f p) (N - p) q = frameF f N (p + q) := by
        unfold frameF
        have e1 : shF (shF f p) q = shF f (p + q) := shF_shF f p q
        rw [e1, Nat.sub_sub, shF_shF, ← Nat.add_assoc]
        refine Prod.ext ?_ rfl
        show f (p + (q + 2)) = f (p + q + 2)
        rw [Nat.add_assoc]
      rw [feedF_go h0, g', ef]
      rw [show p + q + (firstF (shF f (p + q)) (N - (p + q))).2 = p + (q + (firstF (shF f (p + q)) (N - (p + q))).2) by omega, ih]

theorem rest_short (f : Nat → Int) (N : Nat) : ∀ k p, N - p < k → p ≤ N → (feedF f N p).1 = 0 → N - (feedF f N p).2.1 ≤ 4020
  | 0, _, h, _ => absurd h (by omega)
  | k + 1, p, h, hp => by
    by_cases h0 : (firstF (shF f p) (N - p)).2 = 0
    · rw [feedF_stop h0]
      intro hx
      have hx' : (firstF (shF f p) (N - p)).1 = 0 := hx
      show N - p ≤ 4020
      unfold firstF at h0 hx'
      by_cases h1 : (headF (shF f p) (N - p)).1 ≠ 0
      · rw [if_pos h1] at hx'; exact absurd hx' h1
      rw [if_neg h1] at h0 hx'
      by_cases h2 : (headF (shF f p) (N - p)).2.1 = 0 ∨ N - p < (headF (shF f p) (N - p)).2.1 + (headF (shF f p) (N - p)).2.2 + 4
      · rcases h2 with h2 | h2
        · unfold headF at h1 h2
          by_cases g0 : 1 ≤ N - p ∧ shF f p 0 ≠ 199
          · rw [if_pos g0] at h1; simp at h1
          rw [if_neg g0] at h1 h2
          by_cases g1 : 2 ≤ N - p ∧ shF f p 1 ≠ 1
          · rw [if_pos g1] at h1; simp at h1
          rw [if_neg g1] at h1 h2
          by_cases g2 : N - p < 3
          · omega
          rw [if_neg g2] at h1 h2
          by_cases g3 : shF f p 2 < 1 ∨ 3 < shF f p 2
          · rw [if_pos g3] at h1; simp at h1
          rw [if_neg g3] at h1 h2
          by_cases g4 : (lenX (shF f p) (N - p)).2.2 = 1
          · by_cases g5 : N - p ≤ 12
            · omega
            · have hc := cM_spec (shF f p) (N - p) 3
              exfalso
              have h3 := gX_in (f := shF f p) (n := N - p) (m := cM (shF f p) (N - p) 3) (p := 3) (by omega)
              rw [show ((3 : Nat) : Int) = 3 from rfl] at h3
              have g4' : (gX (shF f p) (N - p) (cM (shF f p) (N - p) 3) 3).2.2 = 1 := g4
              rw [h3] at g4'
              have g5' : guC (shF f p) (N - p) 3 (cM (shF f p) (N - p) 3) = 1 := g4'
              unfold guC at g5'
              have := hc.1
              rw [if_neg (by omega)] at g5'
              split at g5'
              · omega
              · split at g5' <;> omega
          rw [if_neg g4] at h1 h2
          by_cases g6 : (lenX (shF f p) (N - p)).2.2 ≠ 0 ∨ 4000 < (lenX (shF f p) (N - p)).1
          · rw [if_pos g6] at h1; simp at h1
          rw [if_neg g6] at h2
          exfalso
          have hc : (lenX (shF f p) (N - p)).2.2 = 0 := by
            by_cases hc : (lenX (shF f p) (N - p)).2.2 = 0
            · exact hc
            · exact absurd (.inl hc) g6
          have hl := (lenX_stable (g := shF f p) (Nat.le_refl (N - p)) g4).2
          have h3 := gX_in (f := shF f p) (n := N - p) (m := cM (shF f p) (N - p) 3) (p := 3) (by omega)
          rw [show ((3 : Nat) : Int) = 3 from rfl] at h3
          have hA : (lenX (shF f p) (N - p)).2.1 = ((guA (shF f p) (N - p) 3 (cM (shF f p) (N - p) 3) : Nat) : Int) := by unfold lenX; rw [h3]
          have h2' : (lenX (shF f p) (N - p)).2.1.toNat = 0 := h2
          rw [hA] at h2'
          unfold guA at h2'
          split at h2' <;> omega
        · by_cases h3 : (headF (shF f p) (N - p)).2.1 = 0
          · by_cases h5 : N - p ≤ 4020
            · exact h5
            · exfalso
              have hl : (headF (shF f p) (N - p)).2.2 ≤ 4000 := by
                unfold headF
                split
                · simp
                split
                · simp
                split
                · simp
                split
                · simp
                split
                · simp
                split
                · simp
                · rename_i hh; show (lenX (shF f p) (N - p)).1 ≤ 4000; omega
              omega
          · have hl : (headF (shF f p) (N - p)).2.2 ≤ 4000 ∧ (headF (shF f p) (N - p)).2.1 ≤ 13 := by
              have hq : ∀ m, m ≤ 9 → guA (shF f p) (N - p) 3 m ≤ 13 := fun m hm => by unfold guA; split <;> omega
              unfold headF
              split
              · simp
              split
              · simp
              split
              · simp
              split
              · simp
              split
              · simp
              split
              · simp
              · rename_i g2 _ g4 hh
                refine ⟨by show (lenX (shF f p) (N - p)).1 ≤ 4000; omega, ?_⟩
                show (lenX (shF f p) (N - p)).2.1.toNat ≤ 13
                have hlt := (lenX_stable (g := shF f p) (Nat.le_refl (N - p)) g4).2
                have h3 := gX_in (f := shF f p) (n := N - p) (m := cM (shF f p) (N - p) 3) (p := 3) (by omega)
                rw [show ((3 : Nat) : Int) = 3 from rfl] at h3
                have hA : (lenX (shF f p) (N - p)).2.1 = ((guA (shF f p) (N - p) 3 (cM (shF f p) (N - p) 3) : Nat) : Int) := by unfold lenX; rw [h3]
                rw [hA]
                have := hq _ (cM_spec (shF f p) (N - p) 3).1
                omega
            omega
      · rw [if_neg h2] at h0 hx'
        split at h0
        · simp at h0
        · rename_i hs; rw [if_neg hs] at hx'; simp at hx'
    · have hle := firstF_le (shF f p) (N - p)
      rw [feedF_go h0]
      exact rest_short f N k (p + (firstF (shF f p) (N - p)).2) (by omega) (by omega)
theorem cM_congr {f g : Nat → Int} {n : Nat} (h : ∀ i, i < n → f i = g i) (p : Nat) : cM f n p = cM g n p := by
  refine cnt_uniq (cM_spec f n p) ?_
  obtain ⟨a, b, c⟩ := cM_spec g n p
  exact ⟨a, fun k hk => ⟨(b k hk).1, by rw [h _ (b k hk).1]; exact (b k hk).2⟩, fun h1 h2 => by rw [h _ h1]; exact c h1 h2⟩
theorem guC_congr {f g : Nat → Int} {n : Nat} (h : ∀ i, i < n → f i = g i) (p m : Nat) : guC f n p m = guC g n p m := by
  unfold guC
  by_cases h0 : n ≤ p + m
  · rw [if_pos h0, if_pos h0]
  · rw [if_neg h0, if_neg h0, h (p + m) (by omega)]
theorem sumF_congr {f g : Nat → Int} (p : Nat) : ∀ k, (∀ i, i < k → f (p + i) = g (p + i)) → sumF f p k = sumF g p k
  | 0, _ => rfl
  | k + 1, h => by
    show sumF f p k + _ = sumF g p k + _
    rw [sumF_congr p k (fun i hi => h i (by omega)), h k (by omega)]
theorem guV_congr {f g : Nat → Int} {n : Nat} (h : ∀ i, i < n → f i = g i) (p m : Nat) : guV f n p m = guV g n p m := by
  unfold guV
  rw [guC_congr h]
  by_cases h0 : guC g n p m = 0
  · rw [if_pos h0, if_pos h0]
    refine sumF_congr p _ (fun i hi => h _ ?_)
    unfold guC at h0
    by_cases h1 : n ≤ p + m
    · rw [if_pos h1] at h0; omega
    · omega
  · rw [if_neg h0, if_neg h0]
theorem lenX_congr {f g : Nat → Int} {n : Nat} (h : ∀ i, i < n → f i = g i) : lenX f n = lenX g n := by
  unfold lenX gX
  rw [cM_congr h, guV_congr h, guC_congr h]
  have : ∀ p m, guA f n p m = guA g n p m := fun p m => by unfold guA; rw [guC_congr h]
  rw [this]
theorem headF_congr {f g : Nat → Int} {n : Nat} (h : ∀ i, i < n → f i = g i) : headF f n = headF g n := by
  unfold headF
  rw [lenX_congr h]
  have e0 : (1 ≤ n ∧ f 0 ≠ 199) ↔ (1 ≤ n ∧ g 0 ≠ 199) := by
    constructor <;> rintro ⟨a, b⟩ <;> refine ⟨a, ?_⟩
    · rw [← h 0 (by omega)]; exact b
    · rw [h 0 (by omega)]; exact b
  have e1 : (2 ≤ n ∧ f 1 ≠ 1) ↔ (2 ≤ n ∧ g 1 ≠ 1) := by
    constructor <;> rintro ⟨a, b⟩ <;> refine ⟨a, ?_⟩
    · rw [← h 1 (by omega)]; exact b
    · rw [h 1 (by omega)]; exact b
  by_cases h0 : 1 ≤ n ∧ g 0 ≠ 199
  · rw [if_pos (e0.2 h0), if_pos h0]
  rw [if_neg (fun hh => h0 (e0.1 hh)), if_neg h0]
  by_cases h1 : 2 ≤ n ∧ g 1 ≠ 1
  · rw [if_pos (e1.2 h1), if_pos h1]
  rw [if_neg (fun hh => h1 (e1.1 hh)), if_neg h1]
  by_cases h2 : n < 3
  · rw [if_pos h2, if_pos h2]
  rw [if_neg h2, if_neg h2, h 2 (by omega)]
theorem headF_in {g : Nat → Int} {n : Nat} (h : (headF g n).2.1 ≠ 0) : 3 ≤ n := by
  unfold headF at h
  split at h
  · simp at h
  split at h
  · simp at h
  split at h
  · simp at h
  · omega
theorem firstF_congr {f g : Nat → Int} {n : Nat} (h : ∀ i, i < n → f i = g i) : firstF f n = firstF g n := by
  unfold firstF
  rw [headF_congr h]
  by_cases h1 : (headF g n).1 ≠ 0
  · rw [if_pos h1, if_pos h1]
  rw [if_neg h1, if_neg h1]
  by_cases h2 : (headF g n).2.1 = 0 ∨ n < (headF g n).2.1 + (headF g n).2.2 + 4
  · rw [if_pos h2, if_pos h2]
  rw [if_neg h2, if_neg h2]
  have hs : sumX f ((headF g n).2.1 + (headF g n).2.2) = sumX g ((headF g n).2.1 + (headF g n).2.2) := by
    unfold sumX; rw [crcI_congr _ (fun i hi => h i (by omega))]
  rw [hs]
  have ho : sumOk f ((headF g n).2.1 + (headF g n).2.2) (sumX g ((headF g n).2.1 + (headF g n).2.2)) ↔ sumOk g ((headF g n).2.1 + (headF g n).2.2) (sumX g ((headF g n).2.1 + (headF g n).2.2)) := by
    unfold sumOk
    rw [h _ (by omega), h _ (by omega), h _ (by omega), h _ (by omega)]
  by_cases h3 : sumOk g ((headF g n).2.1 + (headF g n).2.2) (sumX g ((headF g n).2.1 + (headF g n).2.2))
  · rw [if_pos (ho.2 h3), if_pos h3]
  · rw [if_neg (fun hh => h3 (ho.1 hh)), if_neg h3]
theorem feedF_congr {f g : Nat → Int} {N : Nat} (h : ∀ i, i < N → f i = g i) : ∀ k p, N - p < k → p ≤ N → feedF f N p = feedF g N p
  | 0, _, hk, _ => absurd hk (by omega)
  | k + 1, p, hk, hp => by
    have hs : ∀ i, i < N - p → shF f p i = shF g p i := fun i hi => h (p + i) (by omega)
    have e := firstF_congr hs
    have eh := headF_congr hs
    by_cases h0 : (firstF (shF g p) (N - p)).2 = 0
    · rw [feedF_stop h0, feedF_stop (by rw [e]; exact h0), e]
    · have hle := firstF_le (shF g p) (N - p)
      obtain ⟨g1, g2, g3, g4⟩ := firstF_go h0
      have h3 := headF_in g3
      have ef : frameF f N p = frameF g N p := by
        unfold frameF
        rw [eh, h (p + 2) (by omega)]
        refine Prod.ext rfl ?_
        show payl _ _ = payl _ _
        unfold payl
        refine List.map_congr_left (fun i hi => ?_)
        have := List.mem_range.1 hi
        exact h _ (by omega)
      have ih := feedF_congr h k (p + (firstF (shF g p) (N - p)).2) (by omega) (by omega)
      rw [feedF_go h0, feedF_go (f := f) (by rw [e]; exact h0), e, ef, ih]

theorem feed_next {F : Nat → Int} {q q' : Nat} (hq : q ≤ q') (h0 : (feedF F q 0).1 = 0) {G : Nat → Int} (hG : ∀ i, i < q' - (feedF F q 0).2.1 → G i = F ((feedF F q 0).2.1 + i)) :
    feedF F q' 0 = ((feedF G (q' - (feedF F q 0).2.1) 0).1, (feedF F q 0).2.1 + (feedF G (q' - (feedF F q 0).2.1) 0).2.1, (feedF F q 0).2.2 ++ (feedF G (q' - (feedF F q 0).2.1) 0).2.2) := by
  have hle := feedF_le F q (q + 1) 0 (by omega) (Nat.zero_le _)
  have h1 := (feedF_app F q q' hq (q + 1) 0 (by omega) (Nat.zero_le _)).1 h0
  have h2 := feedF_sh F q' (feedF F q 0).2.1 (q' + 1) 0 (by omega) (by omega)
  rw [Nat.add_zero] at h2
  have h3 := feedF_congr (f := G) (g := shF F (feedF F q 0).2.1) (N := q' - (feedF F q 0).2.1) hG (q' + 1) 0 (by omega) (Nat.zero_le _)
  rw [h1, h2, h3]
theorem feed_fail {F : Nat → Int} {q q' : Nat} (hq : q ≤ q') (h0 : (feedF F q 0).1 ≠ 0) : feedF F q' 0 = feedF F q 0 :=
  (feedF_app F q q' hq (q + 1) 0 (by omega) (Nat.zero_le _)).2 h0
theorem feedF_byt (f : Nat → Int) (hf : Byt f) (N : Nat) : ∀ k p, N - p < k → p ≤ N → ∀ x ∈ (feedF f N p).2.2, ∀ z ∈ x.2, 0 ≤ z ∧ z < 256
  | 0, _, h, _ => absurd h (by omega)
  | k + 1, p, h, hp => by
    by_cases h0 : (firstF (shF f p) (N - p)).2 = 0
    · rw [feedF_stop h0]; intro x hx; simp at hx
    · have hle := firstF_le (shF f p) (N - p)
      rw [feedF_go h0]
      have ih := feedF_byt f hf N k (p + (firstF (shF f p) (N - p)).2) (by omega) (by omega)
      intro x hx
      rcases List.mem_cons.1 hx with rfl | hx
      · intro z hz
        unfold frameF payl at hz
        obtain ⟨i, _, rfl⟩ := List.mem_map.1 hz
        exact hf _
      · exact ih x hx
theorem feedF_sum2 (f : Nat → Int) (hf : Byt f) (N : Nat) : ∀ k p, N - p < k → p ≤ N → (((feedF f N p).2.2.map (fun x => 8 + x.2.length)).sum + p ≤ N ∧ ∀ x ∈ (feedF f N p).2.2, x.2.length ≤ 4000)
  | 0, _, h, _ => absurd h (by omega)
  | k + 1, p, h, hp => by
    by_cases h0 : (firstF (shF f p) (N - p)).2 = 0
    · rw [feedF_stop h0]; exact ⟨by simpa using hp, fun x hx => by simp at hx⟩
    · have hle := firstF_le (shF f p) (N - p)
      obtain ⟨g1, g2, g3, g4⟩ := firstF_go h0
      have hh : headF (shF f p) (N - p) = (0, (headF (shF f p) (N - p)).2.1, (headF (shF f p) (N - p)).2.2) := by rw [← g2]
      obtain ⟨_, _, _, _, _, hl, _, hat, _⟩ := headF_ok (shF_byt hf p) hh g3
      have hu := uvF_len 9 (headF (shF f p) (N - p)).2.2
      rw [feedF_go h0]
      have := feedF_sum2 f hf N k (p + (firstF (shF f p) (N - p)).2) (by omega) (by omega)
      have hfl : (frameF f N p).2.length = (headF (shF f p) (N - p)).2.2 := by unfold frameF; simp [payl]
      refine ⟨?_, fun x hx => ?_⟩
      · show ((frameF f N p :: _).map _).sum + p ≤ N
        rw [List.map_cons, List.sum_cons, hfl]
        have h1 := this.1
        omega
      · rcases List.mem_cons.1 hx with rfl | hx
        · rw [hfl]; exact hl
        · exact this.2 x hx
end Go.Proofs.YthkppnmnjboiaaaDoor
