import Derived.Test.YtbimcammjohaoabCov
import Derived.Test.YtbimcammjohaoabAll2
namespace Go.Proofs.Ytbimcammjohaoab
open Go.ChangeShapes Go.WideShapes Go.ChangeAt Go.RowKit Go.Maps
set_option linter.unusedVariables false
set_option linter.unusedSimpArgs false

theorem all_cov {R F T R' F' T' : Nat → Int} {n : Nat} (k : Nat) : (∀ x, allIn (Lk R F T n) (Lk R' F' T' k) x = true) ↔ covB R F T R' F' T' n k = true := by
  induction k with
  | zero => exact ⟨fun _ => rfl, fun _ x => rfl⟩
  | succ k ih =>
    simp only [covB, Bool.and_eq_true]
    rw [← ih]
    constructor
    · intro h
      refine ⟨fun x => ?_, ?_⟩
      · have := h x
        unfold allIn at *
        rw [show Lk R' F' T' (k + 1) x = upd (Lk R' F' T' k) (R' k) (Lk R' F' T' k (R' k) ++ [(F' k, T' k)]) x from rfl] at this
        by_cases e : x = R' k
        · subst e; rw [upd_same, List.all_append, Bool.and_eq_true] at this; exact this.1
        · rw [upd_other _ _ e] at this; exact this
      · have := h (R' k)
        unfold allIn at this
        rw [show Lk R' F' T' (k + 1) (R' k) = upd (Lk R' F' T' k) (R' k) (Lk R' F' T' k (R' k) ++ [(F' k, T' k)]) (R' k) from rfl, upd_same, List.all_append, Bool.and_eq_true] at this
        have h2 := this.2
        simp at h2
        rw [← in_hasK]; exact h2
    · rintro ⟨h1, h2⟩ x
      unfold allIn
      rw [show Lk R' F' T' (k + 1) x = upd (Lk R' F' T' k) (R' k) (Lk R' F' T' k (R' k) ++ [(F' k, T' k)]) x from rfl]
      by_cases e : x = R' k
      · subst e
        rw [upd_same, List.all_append, Bool.and_eq_true]
        refine ⟨h1 (R' k), ?_⟩
        simp
        rw [in_hasK]; exact h2
      · rw [upd_other _ _ e]; exact h1 x

set_option maxRecDepth 100000 in
set_option maxHeartbeats 1000000 in
theorem implCov (a : Option Addr) (n c : Nat) (R F T : Nat → Int) (a' : Option Addr) (n' c' : Nat) (R' F' T' : Nat → Int) (w : World) (hn : n ≤ 1048576) (hn' : n' ≤ 1048576) (h : RSeg w a n R F T) (h' : RSeg w a' n' R' F' T') :
    Calls Try.prog 13 #[.agg #[.slice a n c], .agg #[.slice a' n' c']] w fun e w' => e = .returned (.bool (covB R F T R' F' T' n n' && (ctxB R F T n && ctxB R' F' T' n'))) ∧ Below w.heap.size w w' := by
  obtain ⟨W0, hW0⟩ : ∃ W0, (w.alloc (.cells #[.slice a n c] 29)).alloc (.cells #[.slice a' n' c'] 29) = W0 := ⟨_, rfl⟩
  have bW : Below w.heap.size w W0 := by rw [← hW0]; exact below2 _ _ _
  have xa : W0.cell? ⟨w.heap.size, 0, none⟩ = some (.slice a n c) := by rw [← hW0]; simp
  have xb : W0.cell? ⟨w.heap.size + 1, 0, none⟩ = some (.slice a' n' c') := by rw [← hW0]; simp
  have zW : W0.heap.size = w.heap.size + 2 := by rw [← hW0]; simp
  have s1 := h.below bW
  have s2 := h'.below bW
  clear h h'
  cases hca : ctxB R F T n with
  | false =>
    cases hcb : ctxB R' F' T' n' with
    | false =>
      go_enter Try.func13, Try.ntmps13
      go_wp2_with fail
      try rw [hW0]
      clear hW0
      refine (openC_no a n c R F T _ hn s1 hca).mono ?_
      rintro e w1 ⟨rfl, b1⟩
      have xb1 := (b1.cell (p := ⟨w.heap.size + 1, 0, none⟩) (show w.heap.size + 1 < W0.heap.size by omega)).trans xb
      have HC := hid (openC_no a' n' c' R' F' T' _ hn' (s2.below b1) hcb)
      have HB := hid (keepS bW b1)
      clear b1 bW s1 s2 xa xb hca hcb
      go_wp2_with fail
      refine HC.out.mono ?_
      rintro e w2 ⟨rfl, b2⟩
      have HZ := hid (keepS HB.out b2)
      clear b2 HC
      go_wp2_with fail
      go_ret
      exact ⟨retB (by simp), HZ.out⟩
    | true =>
      go_enter Try.func13, Try.ntmps13
      go_wp2_with fail
      try rw [hW0]
      clear hW0
      refine (openC_no a n c R F T _ hn s1 hca).mono ?_
      rintro e w1 ⟨rfl, b1⟩
      have xb1 := (b1.cell (p := ⟨w.heap.size + 1, 0, none⟩) (show w.heap.size + 1 < W0.heap.size by omega)).trans xb
      have HC := hid (openC a' n' c' R' F' T' _ hn' (s2.below b1) hcb)
      have HB := hid (keepS bW b1)
      clear b1 bW s1 s2 xa xb hca hcb
      go_wp2_with fail
      refine HC.out.mono ?_
      rintro e w2 ⟨bm, D, G, rfl, hgrp, hbm, b2⟩
      have HZ := hid (keepS HB.out b2)
      clear b2 HC hgrp
      go_wp2_with fail
      go_ret
      exact ⟨retB (by simp), HZ.out⟩
  | true =>
    have hoA := ctxB_iff.1 hca
    cases hcb : ctxB R' F' T' n' with
    | false =>
      clear hoA
      go_enter Try.func13, Try.ntmps13
      go_wp2_with fail
      try rw [hW0]
      clear hW0
      refine (openC a n c R F T _ hn s1 hca).mono ?_
      rintro e w1 ⟨bm, D, G, rfl, hgrp, hbm, b1⟩
      have xb1 := (b1.cell (p := ⟨w.heap.size + 1, 0, none⟩) (show w.heap.size + 1 < W0.heap.size by omega)).trans xb
      have HC := hid (openC_no a' n' c' R' F' T' _ hn' (s2.below b1) hcb)
      have HB := hid (keepS bW b1)
      clear b1 bW s1 s2 xa xb hca hcb hgrp
      go_wp2_with fail
      refine HC.out.mono ?_
      rintro e w2 ⟨rfl, b2⟩
      have HZ := hid (keepS HB.out b2)
      clear b2 HC
      go_wp2_with fail
      go_ret
      exact ⟨retB (by simp), HZ.out⟩
    | true =>
      have hoB := ctxB_iff.1 hcb
      have HS := hid (fun r => (Lk_srt n hoA.1 r).1)
      have HL1 : Hid (∀ r, (Lk R F T n r).length ≤ 1000000) := fun r => by have := Lk_len R F T n r; omega
      have HL2 : Hid (∀ r, (Lk R' F' T' n' r).length ≤ 1000000) := fun r => by have := Lk_len R' F' T' n' r; omega
      clear hoA hoB
      go_enter Try.func13, Try.ntmps13
      go_wp2_with fail
      try rw [hW0]
      clear hW0
      refine (openC a n c R F T _ hn s1 hca).mono ?_
      rintro e w1 ⟨bm, D, G, rfl, hgrp, hbm, b1⟩
      have xb1 := (b1.cell (p := ⟨w.heap.size + 1, 0, none⟩) (show w.heap.size + 1 < W0.heap.size by omega)).trans xb
      have HC := hid (openC a' n' c' R' F' T' _ hn' (s2.below b1) hcb)
      have HB := hid (keepS bW b1)
      have HG := hid hgrp
      clear b1 bW s1 s2 xa xb hca hcb hgrp
      go_wp2_with fail
      refine HC.out.mono ?_
      rintro e w2 ⟨bm', D', G', rfl, hgrp', hbm', b2⟩
      have HA := hid (holdsAll (HG.out.below b2) hgrp' HS.out HL1.out HL2.out)
      have HZ := hid (keepS HB.out b2)
      clear b2 HC hgrp' HG
      go_wp2_with fail
      refine HA.out.mono ?_
      rintro e w3 ⟨acc, rfl, hacc, b3⟩
      have HF : Hid (acc = covB R F T R' F' T' n n') := by
        unfold Hid
        rw [Bool.eq_iff_iff, hacc]
        exact all_cov n'
      have HZ3 := hid (keepS HZ.out b3)
      clear b3 HA hacc
      go_wp2_with fail
      go_ret
      exact ⟨retB (HF.out.trans (by simp)), HZ3.out⟩
end Go.Proofs.Ytbimcammjohaoab
