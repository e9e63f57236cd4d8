import Derived.Test.YtkhicohhahaahaaStv
namespace Go.Proofs.Ytkhicohhahaahaa
open Go.ChangeShapes Go.WideShapes Go.ChangeAt Go.RowKit
set_option linter.unusedVariables false
set_option linter.unusedSimpArgs false

set_option maxRecDepth 100000 in
set_option maxHeartbeats 1000000 in
theorem openRunsC (a : Option Addr) (c : Nat) (l : List Lf) (x : Option Addr) (n d : Nat) (R F T : Nat → Int) (w : World) (hn : l.length ≤ 1048576) (hp : LBd l) (hi : ∀ i, LfI (gL l i)) (hm : n ≤ 1048576) (h : LSeg w a l) (h' : RSeg w x n R F T) :
    Calls Try.prog 40 #[.agg #[.slice a l.length c, .slice x n d]] w fun e w' => (∃ M, e = .returned (.tuple #[M, .bool (yes (StOk R F T n l))])) ∧ Below w.heap.size w w' := by
  obtain ⟨W, hW⟩ : ∃ W, w.alloc (.cells #[.slice a l.length c, .slice x n d] 38) = W := ⟨_, rfl⟩
  have b0 : Below w.heap.size w W := by rw [← hW]; exact (Below.refl _ _).alloc (Nat.le_refl _) _
  have zW : w.heap.size < W.heap.size := by rw [← hW]; simp
  have k0 : W.cell? ⟨w.heap.size, 0, none⟩ = some (.slice a l.length c) := by rw [← hW]; simp
  have k1 : W.cell? ⟨w.heap.size, 1, none⟩ = some (.slice x n d) := by rw [← hW]; simp
  have HL := hid (h.below b0)
  have HR := hid (h'.below b0)
  have HB0 := hid b0
  clear h h' b0
  obtain ⟨Y, hY⟩ : ∃ Y, yes (StOk R F T n l) = Y := ⟨_, rfl⟩
  have HY := hid hY
  rw [hY]
  clear hY
  cases hcx : ctxB R F T n with
  | false =>
    have HF : Hid (Y = false) := hid (by rw [← HY.out]; exact yes_f (fun h => by have := h.1; rw [hcx] at this; cases this))
    have HO := hid (openC_no x n d R F T W hm HR.out hcx)
    have eF := HF.out
    clear hcx HF HY
    subst eF
    go_enter Try.func40, Try.ntmps40
    go_wp2_with fail
    try rw [hW]
    clear hW
    refine HO.out.mono ?_
    rintro e w1 ⟨rfl, b1⟩
    have m0 := (b1.cell (p := ⟨w.heap.size, 0, none⟩) zW).trans k0
    have HZ := hid (keepS HB0.out b1)
    clear b1 HO k0 k1
    go_wp2_with fail
    go_ret2
    exact ⟨⟨_, rfl⟩, HZ.out⟩
  | true =>
    have hokT := ctxB_iff.1 hcx
    have HO := hid (openC x n d R F T W hm HR.out hcx)
    have HS : Hid (∀ r, Srt (Lk R F T n r)) := hid (fun r => (Lk_srt n hokT.1 r).1)
    have HN : Hid (∀ r, (Lk R F T n r).length ≤ 1000000) := hid (fun r => by have := Lk_len R F T n r; have := hokT.2; omega)
    have HE : Hid (Y = yes (LsOk R F T n l)) := hid (by
      rw [← HY.out]
      by_cases e : LsOk R F T n l
      · rw [yes_t e, yes_t ⟨hcx, e.1, e.2.1, e.2.2⟩]
      · rw [yes_f e, yes_f (fun h => e ⟨h.2.1, h.2.2.1, h.2.2.2⟩)])
    clear hokT hcx
    go_enter Try.func40, Try.ntmps40
    go_wp2_with fail
    try rw [hW]
    clear hW
    refine HO.out.mono ?_
    rintro e w1 ⟨bm, D, G, rfl, hgrp, hbm, b1⟩
    have m0 := (b1.cell (p := ⟨w.heap.size, 0, none⟩) zW).trans k0
    have HC := hid (leavesOk a c l bm n D G R F T w1 hn hp hi (HL.out.below b1) hgrp HS.out HN.out)
    have HZ := hid (keepS HB0.out b1)
    clear b1 HO k0 k1 hgrp hbm
    go_wp2_with fail
    refine HC.out.mono ?_
    rintro e w2 ⟨rfl, b2⟩
    have HZ2 := hid (keepS HZ.out b2)
    rw [← HE.out]
    clear b2 HC HE
    cases Y with
    | true =>
      go_wp2_with fail
      go_ret2
      exact ⟨⟨_, rfl⟩, HZ2.out⟩
    | false =>
      go_wp2_with fail
      go_ret2
      exact ⟨⟨_, rfl⟩, HZ2.out⟩

end Go.Proofs.Ytkhicohhahaahaa
