import Derived.Test.YtcbcabhjododoaaGreatFg11
import Derived.Test.YtcbcabhjododoaaGreatFg12
import Derived.Test.YtcbcabhjododoaaGreatFg13
set_option linter.unusedVariables false
set_option linter.unusedSimpArgs false
set_option maxRecDepth 100000
set_option maxHeartbeats 40000000
namespace Go.Proofs.YtcbcabhjododoaaGreat
open Go.ChangeShapes Go.WideShapes Go.ChangeAt Go.RowKit Go.Maps
theorem DotM.below {w w1 : World} {bm k : Nat} {l : List Lf} {D : DataW Value} (h : DotM w bm k l D) (hb : Below w.heap.size w w1) : DotM w1 bm k l D :=
 ⟨h.own.kept ⟨hb.os, hb.tape, hb.output, hb.size, fun k hk _ => hb.block k hk⟩ (by simp : some bm ≠ none), h.tidy, h.has', h.le, h.eq⟩
def LsOk (R F T : Nat → Int) (n : Nat) (l : List Lf) : Prop := l.length ≤ 1000 ∧ LvOk R F T n l l.length ∧ Dis l l.length
theorem leavesOk (a : Option Addr) (c : Nat) (l : List Lf) (bm n : Nat) (M : DataW Value) (G : Int → Value) (R F T : Nat → Int) (w : World) (hn : l.length ≤ 1048576) (hp : LBd l) (hi : ∀ i, LfI (gL l i)) (h : LSeg w a l)
  (hG : GrpAt w bm n M G (Lk R F T n)) (hs : ∀ r, Srt (Lk R F T n r)) (hl : ∀ r, (Lk R F T n r).length ≤ 1000000) :
  Calls Tryz.prog 90 #[.slice a l.length c, .map (some bm)] w fun e w' => e = .returned (.bool (yes (LsOk R F T n l))) ∧ Below w.heap.size w w' := by
 have hmm := @run_makeMap Tryz.prog
 obtain ⟨Y, hY⟩ : ∃ Y, yes (LsOk R F T n l) = Y := ⟨_, rfl⟩
 have HY := hid hY
 rw [hY]
 clear hY
 have HL := hid h
 have HG := hid hG
 clear h hG
 by_cases hbig : (1000 : Int) < (l.length : Int)
 ·have d0 : decide ((1000 : Int) < (l.length : Int)) = true := by simpa using hbig
  have HF : Hid (Y = false) := hid (by rw [← HY.out]; exact yes_f (fun h => by have := h.1; omega))
  go_enter Tryz.func90, Tryz.ntmps90
  go_wp2_with fail
  go_ret
  exact ⟨ret_b HF.out.symm, Below.refl _ _⟩
 ·have d0 : decide ((1000 : Int) < (l.length : Int)) = false := by simpa using hbig
  go_enter Tryz.func90, Tryz.ntmps90
  go_wp2_with fail
  clear d0
  have HM0 := hid (DotM.made w l)
  have HB0 : Hid (Below w.heap.size w (w.alloc (.map #[] 0))) := hid ((Below.refl _ _).alloc (Nat.le_refl _) _)
  go_loopw [14] (fun i wr => ∃ k : Nat, k ≤ l.length ∧ i = .int .i64 k ∧ Hid (Below w.heap.size w wr) ∧ (∃ D, Hid (DotM wr w.heap.size k l D)) ∧ Hid (LvOk R F T n l k)) (fun i _ => l.length - (intOf i).toNat)
  case atStart => exact ⟨0, Nat.zero_le _, rfl, HB0, ⟨_, HM0⟩, hid (fun i hi => by omega)⟩
  case round =>
   clear HM0 HB0 hmm
   obtain ⟨k, hk, rfl, HBR, ⟨D, HDM⟩, HI⟩ := hrel
   by_cases hlt : k < l.length
   ·rcases HL.out with h | ⟨b, off, rfl, hb, hc⟩
    ·omega
    obtain ⟨pa, pc, c0, s, c1, c2, c3, c4⟩ := hc k hlt
    have x0 := (HBR.out.cell (p := ⟨b, off + k * 5, none⟩) hb).trans c0
    have x1 := (HBR.out.cell (p := ⟨b, off + k * 5 + 1, none⟩) hb).trans c1
    have x2 := (HBR.out.cell (p := ⟨b, off + k * 5 + 2, none⟩) hb).trans c2
    have x3 := (HBR.out.cell (p := ⟨b, off + k * 5 + 3, none⟩) hb).trans c3
    have x4 := (HBR.out.cell (p := ⟨b, off + k * 5 + 4, none⟩) hb).trans c4
    have HS := hid (s.below HBR.out)
    have i1 : (0 : Int) ≤ (k : Int) := Int.natCast_nonneg _
    have i2 : (k : Int) < (l.length : Int) := by omega
    have HCC := hid hc
    have zr : w.heap.size ≤ wr.heap.size := HBR.out.size
    have hwf := hi k
    clear hc c0 c1 c2 c3 c4 s
    obtain ⟨y, hy⟩ : ∃ y, gL l k = y := ⟨_, rfl⟩
    have hpk := hp k
    rw [hy] at HS x0 x1 x2 x3 x4 hpk hwf
    have HE := hid hy
    clear hy
    obtain ⟨p, fl, r, q, v⟩ := y
    dsimp only [LfI] at HS x0 x1 x2 x3 x4 hpk hwf
    go_wp2_with fail
    obtain ⟨W2, hW2⟩ : ∃ W2, wr.alloc (.cells #[.slice pa p.length pc, .bool fl, .int .i64 r, .int .i64 q, .string v] 57) = W2 := ⟨_, rfl⟩
    have b2 : Below wr.heap.size wr W2 := by rw [← hW2]; exact (Below.refl _ _).alloc (Nat.le_refl _) _
    have B5 : Bx5 W2 wr.heap.size (.slice pa p.length pc) (.bool fl) (.int .i64 r) (.int .i64 q) (.string v) := by rw [← hW2]; exact ⟨by simp, by simp, by simp, by simp, by simp, fun i => by simp, by simp⟩
    have y0 := B5.c0
    have y1 := B5.c1
    have y2 := B5.c2
    have y3 := B5.c3
    have y4 := B5.c4
    have z2 := B5.lt
    have HB02 := hid b2
    have HB2 := hid (HBR.out.trans (b2.mono HBR.out.size))
    have HSP := hid (HS.out.below b2)
    have HG2 := hid (HG.out.below HB2.out)
    rw [hW2]
    clear hW2 b2 B5 x0 x1 x2 x3 x4 HS
    have HNO : Hid (¬ (LfOk1 ⟨p, fl, r, q, v⟩ ∧ hasK R F T r q q n = true ∧ (0 < k → cmpL (gL l (k - 1)) ⟨p, fl, r, q, v⟩ < 0)) → Y = false) := hid (fun no => by
     rw [← HY.out]; exact yes_f (fun h => no (by have := h.2.1 k hlt; rw [HE.out] at this; exact this)))
    obtain ⟨Y1, hY1⟩ : ∃ Y1, yes (LfOk1 ⟨p, fl, r, q, v⟩) = Y1 := ⟨_, rfl⟩
    have HY1 := hid hY1
    have HLO : Hid (∀ W, Below W2.heap.size W2 W → Calls Tryz.prog 104 #[.agg #[.slice pa p.length pc, .bool fl, .int .i64 r, .int .i64 q, .string v]] W fun e w' => e = .returned (.bool Y1) ∧ Below W.heap.size W w') := hid (fun W hB => by rw [← hY1]; exact leafOk pa pc p fl r q v W hpk (HSP.out.below hB))
    obtain ⟨A, hA⟩ : ∃ A, hasK R F T r q q n = A := ⟨_, rfl⟩
    have HA := hid hA
    have HHA : Hid (∀ W, Below W2.heap.size W2 W → Calls Tryz.prog 105 #[.map (some bm), .agg #[.int .i64 r, .int .i64 q]] W fun e w' => e = .returned (.bool A) ∧ Below W.heap.size W w') := hid (fun W hB => by rw [← hA, ← in_hasK]; exact hasM (HG2.out.below hB) r q hwf.1 (hs r) (hl r))
    clear hY1 hA
    cases Y1 with
    | false =>
     have HCS : Hid (∀ w', Below W2.heap.size W2 w' → (Below W2.heap.size W2 w' ∧ w'.cell? ⟨wr.heap.size, 0, none⟩ = some (.slice pa p.length pc) ∧ w'.cell? ⟨wr.heap.size, 1, none⟩ = some (.bool fl) ∧ w'.cell? ⟨wr.heap.size, 2, none⟩ = some (.int .i64 r) ∧ w'.cell? ⟨wr.heap.size, 3, none⟩ = some (.int .i64 q) ∧ w'.cell? ⟨wr.heap.size, 4, none⟩ = some (.string v))) := hid (fun w' hB => ⟨hB, (hB.cell (p := ⟨wr.heap.size, 0, none⟩) z2).trans y0, (hB.cell (p := ⟨wr.heap.size, 1, none⟩) z2).trans y1, (hB.cell (p := ⟨wr.heap.size, 2, none⟩) z2).trans y2, (hB.cell (p := ⟨wr.heap.size, 3, none⟩) z2).trans y3, (hB.cell (p := ⟨wr.heap.size, 4, none⟩) z2).trans y4⟩)
     refine wp_region_held_drew (S := fun w' => Below W2.heap.size W2 w' ∧ w'.cell? ⟨wr.heap.size, 0, none⟩ = some (.slice pa p.length pc) ∧ w'.cell? ⟨wr.heap.size, 1, none⟩ = some (.bool fl) ∧ w'.cell? ⟨wr.heap.size, 2, none⟩ = some (.int .i64 r) ∧ w'.cell? ⟨wr.heap.size, 3, none⟩ = some (.int .i64 q) ∧ w'.cell? ⟨wr.heap.size, 4, none⟩ = some (.string v)) (by kernel_rfl) (HCS.out _ (Below.refl _ _).drew) (fun hHeld => ?_)
     refine tk 0 19 ?_ (by kernel_rfl) (fun _ _ _ h => h) ?_ hHeld ?_
     rotate_left
     ·(intro o ho; simp only [gZa, gZb, gZc, gZd] at ho; subst ho; refine Or.inl ⟨by rfl, ?_⟩; intro w hSw; (try dsimp only at hSw); go_simp; try with_reducible rfl)
     try simp only [Act.put, sZa, sZb, sZc]
     refine call1 (i := 1) (d := some 20) (by kernel_rfl) (by kernel_rfl) ?_
     intro o ho hod K hK; simp only [gZa, gZb, gZc, gZd] at ho; subst ho
     go_simp
     refine (HLO.out _ hHeld.1).mono ?_
     rintro e w3 ⟨rfl, b3⟩
     have hB3 := hHeld.1.trans (b3.mono hHeld.1.size)
     refine hK.out _ _ (HCS.out _ hB3) (fun hHeld => ?_)
     clear hK K
     try simp only [Act.put, sZa, sZb, sZc]
     refine tk 2 21 ?_ (by kernel_rfl) (fun _ _ _ h => h) ?_ hHeld (tk 3 22 ?_ (by kernel_rfl) (fun _ _ _ h => h) ?_ hHeld ?_)
     iterate 2 (rotate_left; focus (intro o ho; simp only [gZa, gZb, gZc, gZd] at ho; subst ho; refine Or.inl ⟨by rfl, ?_⟩; intro w hSw; (try dsimp only at hSw); (try simp only [Act.put, sZa, sZb, sZc]); go_simp; try with_reducible rfl))
     try simp only [Act.put, sZa, sZb, sZc]
     refine tk 4 23 undef (by kernel_rfl) (fun _ _ _ h => h) ?_ hHeld (tk 5 24 undef (by kernel_rfl) (fun _ _ _ h => h) ?_ hHeld (tk 6 25 undef (by kernel_rfl) (fun _ _ _ h => h) ?_ hHeld (tk 7 26 undef (by kernel_rfl) (fun _ _ _ h => h) ?_ hHeld (tk 8 27 undef (by kernel_rfl) (fun _ _ _ h => h) ?_ hHeld ?_))))
     iterate 5 (focus (intro o ho; simp only [gZa, gZb, gZc, gZd] at ho; subst ho; (try simp only [Act.put, sZa, sZb, sZc]); exact Or.inr ⟨by rfl, rfl⟩))
     try simp only [Act.put, sZa, sZb, sZc]
     refine tk 9 28 ?_ (by kernel_rfl) (fun _ _ _ h => h) ?_ hHeld (tk 10 29 ?_ (by kernel_rfl) (fun _ _ _ h => h) ?_ hHeld ?_)
     iterate 2 (rotate_left; focus (intro o ho; simp only [gZa, gZb, gZc, gZd] at ho; subst ho; refine Or.inl ⟨by rfl, ?_⟩; intro w hSw; (try dsimp only at hSw); (try simp only [Act.put, sZa, sZb, sZc]); go_simp; try with_reducible rfl))
     try simp only [Act.put, sZa, sZb, sZc]
     refine tk 11 30 undef (by kernel_rfl) (fun _ _ _ h => h) ?_ hHeld (tk 12 31 undef (by kernel_rfl) (fun _ _ _ h => h) ?_ hHeld (tk 13 32 undef (by kernel_rfl) (fun _ _ _ h => h) ?_ hHeld (tk 14 33 undef (by kernel_rfl) (fun _ _ _ h => h) ?_ hHeld (tk 15 34 undef (by kernel_rfl) (fun _ _ _ h => h) ?_ hHeld ?_))))
     iterate 5 (focus (intro o ho; simp only [gZa, gZb, gZc, gZd] at ho; subst ho; (try simp only [Act.put, sZa, sZb, sZc]); exact Or.inr ⟨by rfl, rfl⟩))
     try simp only [Act.put, sZa, sZb, sZc]
     refine tk 16 35 undef (by kernel_rfl) (fun _ _ _ h => h) ?_ hHeld (tk 17 36 undef (by kernel_rfl) (fun _ _ _ h => h) ?_ hHeld (tk 18 37 undef (by kernel_rfl) (fun _ _ _ h => h) ?_ hHeld (tk 19 38 undef (by kernel_rfl) (fun _ _ _ h => h) ?_ hHeld (tk 20 39 undef (by kernel_rfl) (fun _ _ _ h => h) ?_ hHeld ?_))))
     iterate 5 (focus (intro o ho; simp only [gZa, gZb, gZc, gZd] at ho; subst ho; (try simp only [Act.put, sZa, sZb, sZc]); exact Or.inr ⟨by rfl, rfl⟩))
     try simp only [Act.put, sZa, sZb, sZc]
     refine tk 21 40 undef (by kernel_rfl) (fun _ _ _ h => h) ?_ hHeld (tk 22 41 undef (by kernel_rfl) (fun _ _ _ h => h) ?_ hHeld ?_)
     iterate 2 (focus (intro o ho; simp only [gZa, gZb, gZc, gZd] at ho; subst ho; (try simp only [Act.put, sZa, sZb, sZc]); exact Or.inr ⟨by rfl, rfl⟩))
     try simp only [Act.put, sZa, sZb, sZc]
     refine tk 23 42 ?_ (by kernel_rfl) (fun _ _ _ h => h) ?_ hHeld ?_
     rotate_left
     ·(intro o ho; simp only [gZa, gZb, gZc, gZd] at ho; subst ho; refine Or.inl ⟨by rfl, ?_⟩; intro w hSw; (try dsimp only at hSw); go_simp; try with_reducible rfl)
     try simp only [Act.put, sZa, sZb, sZc]
     refine wpAnyH_done (by kernel_rfl) ?_ _
     have HF := hid (HNO.out (fun h => by have := yes_t h.1; rw [HY1.out] at this; cases this))
     have HZ := hid (HB2.out.trans (hB3.mono HB2.out.size))
     clear hHeld HCS HNO
     go_wp2_with fail
     go_ret
     exact ⟨ret_b HF.out.symm, HZ.out⟩
    | true =>
     cases A with
     | false =>
      have HCS : Hid (∀ w', Below W2.heap.size W2 w' → (Below W2.heap.size W2 w' ∧ w'.cell? ⟨wr.heap.size, 0, none⟩ = some (.slice pa p.length pc) ∧ w'.cell? ⟨wr.heap.size, 1, none⟩ = some (.bool fl) ∧ w'.cell? ⟨wr.heap.size, 2, none⟩ = some (.int .i64 r) ∧ w'.cell? ⟨wr.heap.size, 3, none⟩ = some (.int .i64 q) ∧ w'.cell? ⟨wr.heap.size, 4, none⟩ = some (.string v))) := hid (fun w' hB => ⟨hB, (hB.cell (p := ⟨wr.heap.size, 0, none⟩) z2).trans y0, (hB.cell (p := ⟨wr.heap.size, 1, none⟩) z2).trans y1, (hB.cell (p := ⟨wr.heap.size, 2, none⟩) z2).trans y2, (hB.cell (p := ⟨wr.heap.size, 3, none⟩) z2).trans y3, (hB.cell (p := ⟨wr.heap.size, 4, none⟩) z2).trans y4⟩)
      refine wp_region_held_drew (S := fun w' => Below W2.heap.size W2 w' ∧ w'.cell? ⟨wr.heap.size, 0, none⟩ = some (.slice pa p.length pc) ∧ w'.cell? ⟨wr.heap.size, 1, none⟩ = some (.bool fl) ∧ w'.cell? ⟨wr.heap.size, 2, none⟩ = some (.int .i64 r) ∧ w'.cell? ⟨wr.heap.size, 3, none⟩ = some (.int .i64 q) ∧ w'.cell? ⟨wr.heap.size, 4, none⟩ = some (.string v)) (by kernel_rfl) (HCS.out _ (Below.refl _ _).drew) (fun hHeld => ?_)
      refine tk 0 19 ?_ (by kernel_rfl) (fun _ _ _ h => h) ?_ hHeld ?_
      rotate_left
      ·(intro o ho; simp only [gZa, gZb, gZc, gZd] at ho; subst ho; refine Or.inl ⟨by rfl, ?_⟩; intro w hSw; (try dsimp only at hSw); go_simp; try with_reducible rfl)
      try simp only [Act.put, sZa, sZb, sZc]
      refine call1 (i := 1) (d := some 20) (by kernel_rfl) (by kernel_rfl) ?_
      intro o ho hod K hK; simp only [gZa, gZb, gZc, gZd] at ho; subst ho
      go_simp
      refine (HLO.out _ hHeld.1).mono ?_
      rintro e w3 ⟨rfl, b3⟩
      have hB3 := hHeld.1.trans (b3.mono hHeld.1.size)
      refine hK.out _ _ (HCS.out _ hB3) (fun hHeld => ?_)
      clear hK K
      try simp only [Act.put, sZa, sZb, sZc]
      refine tk 2 21 ?_ (by kernel_rfl) (fun _ _ _ h => h) ?_ hHeld (tk 3 22 ?_ (by kernel_rfl) (fun _ _ _ h => h) ?_ hHeld (tk 4 23 ?_ (by kernel_rfl) (fun _ _ _ h => h) ?_ hHeld (tk 5 24 ?_ (by kernel_rfl) (fun _ _ _ h => h) ?_ hHeld (tk 6 25 ?_ (by kernel_rfl) (fun _ _ _ h => h) ?_ hHeld ?_))))
      iterate 5 (rotate_left; focus (intro o ho; simp only [gZa, gZb, gZc, gZd] at ho; subst ho; refine Or.inl ⟨by rfl, ?_⟩; intro w hSw; (try dsimp only at hSw); (try simp only [Act.put, sZa, sZb, sZc]); go_simp; try with_reducible rfl))
      try simp only [Act.put, sZa, sZb, sZc]
      refine call1 (i := 7) (d := some 26) (by kernel_rfl) (by kernel_rfl) ?_
      intro o ho hod K hK; simp only [gZa, gZb, gZc, gZd] at ho; subst ho
      go_simp
      refine (HHA.out _ hHeld.1).mono ?_
      rintro e w4 ⟨rfl, b4⟩
      have hB4 := hHeld.1.trans (b4.mono hHeld.1.size)
      refine hK.out _ _ (HCS.out _ hB4) (fun hHeld => ?_)
      clear hK K
      try simp only [Act.put, sZa, sZb, sZc]
      refine tk 8 27 ?_ (by kernel_rfl) (fun _ _ _ h => h) ?_ hHeld (tk 9 28 ?_ (by kernel_rfl) (fun _ _ _ h => h) ?_ hHeld (tk 10 29 ?_ (by kernel_rfl) (fun _ _ _ h => h) ?_ hHeld ?_))
      iterate 3 (rotate_left; focus (intro o ho; simp only [gZa, gZb, gZc, gZd] at ho; subst ho; refine Or.inl ⟨by rfl, ?_⟩; intro w hSw; (try dsimp only at hSw); (try simp only [Act.put, sZa, sZb, sZc]); go_simp; try with_reducible rfl))
      try simp only [Act.put, sZa, sZb, sZc]
      refine tk 11 30 undef (by kernel_rfl) (fun _ _ _ h => h) ?_ hHeld (tk 12 31 undef (by kernel_rfl) (fun _ _ _ h => h) ?_ hHeld (tk 13 32 undef (by kernel_rfl) (fun _ _ _ h => h) ?_ hHeld (tk 14 33 undef (by kernel_rfl) (fun _ _ _ h => h) ?_ hHeld (tk 15 34 undef (by kernel_rfl) (fun _ _ _ h => h) ?_ hHeld ?_))))
      iterate 5 (focus (intro o ho; simp only [gZa, gZb, gZc, gZd] at ho; subst ho; (try simp only [Act.put, sZa, sZb, sZc]); exact Or.inr ⟨by rfl, rfl⟩))
      try simp only [Act.put, sZa, sZb, sZc]
      refine tk 16 35 undef (by kernel_rfl) (fun _ _ _ h => h) ?_ hHeld (tk 17 36 undef (by kernel_rfl) (fun _ _ _ h => h) ?_ hHeld (tk 18 37 undef (by kernel_rfl) (fun _ _ _ h => h) ?_ hHeld (tk 19 38 undef (by kernel_rfl) (fun _ _ _ h => h) ?_ hHeld (tk 20 39 undef (by kernel_rfl) (fun _ _ _ h => h) ?_ hHeld ?_))))
      iterate 5 (focus (intro o ho; simp only [gZa, gZb, gZc, gZd] at ho; subst ho; (try simp only [Act.put, sZa, sZb, sZc]); exact Or.inr ⟨by rfl, rfl⟩))
      try simp only [Act.put, sZa, sZb, sZc]
      refine tk 21 40 undef (by kernel_rfl) (fun _ _ _ h => h) ?_ hHeld (tk 22 41 undef (by kernel_rfl) (fun _ _ _ h => h) ?_ hHeld ?_)
      iterate 2 (focus (intro o ho; simp only [gZa, gZb, gZc, gZd] at ho; subst ho; (try simp only [Act.put, sZa, sZb, sZc]); exact Or.inr ⟨by rfl, rfl⟩))
      try simp only [Act.put, sZa, sZb, sZc]
      refine tk 23 42 ?_ (by kernel_rfl) (fun _ _ _ h => h) ?_ hHeld ?_
      rotate_left
      ·(intro o ho; simp only [gZa, gZb, gZc, gZd] at ho; subst ho; refine Or.inl ⟨by rfl, ?_⟩; intro w hSw; (try dsimp only at hSw); go_simp; try with_reducible rfl)
      try simp only [Act.put, sZa, sZb, sZc]
      refine wpAnyH_done (by kernel_rfl) ?_ _
      have HF := hid (HNO.out (fun h => by have := h.2.1; rw [HA.out] at this; cases this))
      have HZ := hid (HB2.out.trans (hB4.mono HB2.out.size))
      clear hHeld HCS HNO
      go_wp2_with fail
      go_ret
      exact ⟨ret_b HF.out.symm, HZ.out⟩
     | true =>
      by_cases hk0 : k = 0
      ·have d2 : decide ((0 : Int) < (k : Int)) = false := by simp; omega
       have d3 : decide (0 < k) = false := by simp; omega
       have HORD : Hid (0 < k → cmpL (gL l (k - 1)) ⟨p, fl, r, q, v⟩ < 0) := hid (fun h => by omega)
       clear hk0
       have HCS : Hid (∀ w', Below W2.heap.size W2 w' → (Below W2.heap.size W2 w' ∧ w'.cell? ⟨wr.heap.size, 0, none⟩ = some (.slice pa p.length pc) ∧ w'.cell? ⟨wr.heap.size, 1, none⟩ = some (.bool fl) ∧ w'.cell? ⟨wr.heap.size, 2, none⟩ = some (.int .i64 r) ∧ w'.cell? ⟨wr.heap.size, 3, none⟩ = some (.int .i64 q) ∧ w'.cell? ⟨wr.heap.size, 4, none⟩ = some (.string v))) := hid (fun w' hB => ⟨hB, (hB.cell (p := ⟨wr.heap.size, 0, none⟩) z2).trans y0, (hB.cell (p := ⟨wr.heap.size, 1, none⟩) z2).trans y1, (hB.cell (p := ⟨wr.heap.size, 2, none⟩) z2).trans y2, (hB.cell (p := ⟨wr.heap.size, 3, none⟩) z2).trans y3, (hB.cell (p := ⟨wr.heap.size, 4, none⟩) z2).trans y4⟩)
       refine wp_region_held_drew (S := fun w' => Below W2.heap.size W2 w' ∧ w'.cell? ⟨wr.heap.size, 0, none⟩ = some (.slice pa p.length pc) ∧ w'.cell? ⟨wr.heap.size, 1, none⟩ = some (.bool fl) ∧ w'.cell? ⟨wr.heap.size, 2, none⟩ = some (.int .i64 r) ∧ w'.cell? ⟨wr.heap.size, 3, none⟩ = some (.int .i64 q) ∧ w'.cell? ⟨wr.heap.size, 4, none⟩ = some (.string v)) (by kernel_rfl) (HCS.out _ (Below.refl _ _).drew) (fun hHeld => ?_)
       refine tk 0 19 ?_ (by kernel_rfl) (fun _ _ _ h => h) ?_ hHeld ?_
       rotate_left
       ·(intro o ho; simp only [gZa, gZb, gZc, gZd] at ho; subst ho; refine Or.inl ⟨by rfl, ?_⟩; intro w hSw; (try dsimp only at hSw); go_simp; try with_reducible rfl)
       try simp only [Act.put, sZa, sZb, sZc]
       refine call1 (i := 1) (d := some 20) (by kernel_rfl) (by kernel_rfl) ?_
       intro o ho hod K hK; simp only [gZa, gZb, gZc, gZd] at ho; subst ho
       go_simp
       refine (HLO.out _ hHeld.1).mono ?_
       rintro e w3 ⟨rfl, b3⟩
       have hB3 := hHeld.1.trans (b3.mono hHeld.1.size)
       refine hK.out _ _ (HCS.out _ hB3) (fun hHeld => ?_)
       clear hK K
       try simp only [Act.put, sZa, sZb, sZc]
       refine tk 2 21 ?_ (by kernel_rfl) (fun _ _ _ h => h) ?_ hHeld (tk 3 22 ?_ (by kernel_rfl) (fun _ _ _ h => h) ?_ hHeld (tk 4 23 ?_ (by kernel_rfl) (fun _ _ _ h => h) ?_ hHeld (tk 5 24 ?_ (by kernel_rfl) (fun _ _ _ h => h) ?_ hHeld (tk 6 25 ?_ (by kernel_rfl) (fun _ _ _ h => h) ?_ hHeld ?_))))
       iterate 5 (rotate_left; focus (intro o ho; simp only [gZa, gZb, gZc, gZd] at ho; subst ho; refine Or.inl ⟨by rfl, ?_⟩; intro w hSw; (try dsimp only at hSw); (try simp only [Act.put, sZa, sZb, sZc]); go_simp; try with_reducible rfl))
       try simp only [Act.put, sZa, sZb, sZc]
       refine call1 (i := 7) (d := some 26) (by kernel_rfl) (by kernel_rfl) ?_
       intro o ho hod K hK; simp only [gZa, gZb, gZc, gZd] at ho; subst ho
       go_simp
       refine (HHA.out _ hHeld.1).mono ?_
       rintro e w4 ⟨rfl, b4⟩
       have hB4 := hHeld.1.trans (b4.mono hHeld.1.size)
       refine hK.out _ _ (HCS.out _ hB4) (fun hHeld => ?_)
       clear hK K
       try simp only [Act.put, sZa, sZb, sZc]
       refine tk 8 27 ?_ (by kernel_rfl) (fun _ _ _ h => h) ?_ hHeld (tk 9 28 ?_ (by kernel_rfl) (fun _ _ _ h => h) ?_ hHeld (tk 10 29 ?_ (by kernel_rfl) (fun _ _ _ h => h) ?_ hHeld (tk 11 30 ?_ (by kernel_rfl) (fun _ _ _ h => h) ?_ hHeld (tk 12 31 ?_ (by kernel_rfl) (fun _ _ _ h => h) ?_ hHeld ?_))))
       iterate 5 (rotate_left; focus (intro o ho; simp only [gZa, gZb, gZc, gZd] at ho; subst ho; refine Or.inl ⟨by rfl, ?_⟩; intro w hSw; (try dsimp only at hSw); (try simp only [Act.put, sZa, sZb, sZc]); go_simp; try with_reducible rfl))
       try simp only [Act.put, sZa, sZb, sZc]
       refine tk 13 32 ?_ (by kernel_rfl) (fun _ _ _ h => h) ?_ hHeld ?_
       rotate_left
       ·(intro o ho; simp only [gZa, gZb, gZc, gZd] at ho; subst ho; refine Or.inl ⟨by rfl, ?_⟩; intro w hSw; (try dsimp only at hSw); go_simp; try with_reducible rfl)
       try simp only [Act.put, sZa, sZb, sZc]
       refine tk 14 33 undef (by kernel_rfl) (fun _ _ _ h => h) ?_ hHeld (tk 15 34 undef (by kernel_rfl) (fun _ _ _ h => h) ?_ hHeld (tk 16 35 undef (by kernel_rfl) (fun _ _ _ h => h) ?_ hHeld (tk 17 36 undef (by kernel_rfl) (fun _ _ _ h => h) ?_ hHeld (tk 18 37 undef (by kernel_rfl) (fun _ _ _ h => h) ?_ hHeld ?_))))
       iterate 5 (focus (intro o ho; simp only [gZa, gZb, gZc, gZd] at ho; subst ho; (try simp only [Act.put, sZa, sZb, sZc]); exact Or.inr ⟨by rfl, rfl⟩))
       try simp only [Act.put, sZa, sZb, sZc]
       refine tk 19 38 undef (by kernel_rfl) (fun _ _ _ h => h) ?_ hHeld (tk 20 39 undef (by kernel_rfl) (fun _ _ _ h => h) ?_ hHeld (tk 21 40 undef (by kernel_rfl) (fun _ _ _ h => h) ?_ hHeld ?_))
       iterate 3 (focus (intro o ho; simp only [gZa, gZb, gZc, gZd] at ho; subst ho; (try simp only [Act.put, sZa, sZb, sZc]); exact Or.inr ⟨by rfl, rfl⟩))
       try simp only [Act.put, sZa, sZb, sZc]
       refine tk 22 41 ?_ (by kernel_rfl) (fun _ _ _ h => h) ?_ hHeld (tk 23 42 ?_ (by kernel_rfl) (fun _ _ _ h => h) ?_ hHeld ?_)
       iterate 2 (rotate_left; focus (intro o ho; simp only [gZa, gZb, gZc, gZd] at ho; subst ho; refine Or.inl ⟨by rfl, ?_⟩; intro w hSw; (try dsimp only at hSw); (try simp only [Act.put, sZa, sZb, sZc]); go_simp; try with_reducible rfl))
       try simp only [Act.put, sZa, sZb, sZc]
       refine wpAnyH_done (by kernel_rfl) ?_ _
       have HBZ := hid hB4
       have y2 := (hB4.cell (p := ⟨wr.heap.size, 2, none⟩) z2).trans y2
       have y3 := (hB4.cell (p := ⟨wr.heap.size, 3, none⟩) z2).trans y3
       obtain ⟨kl, hkl⟩ := dotKey hwf.1 hwf.2
       have HKL := hid hkl
       have HDM2 := HDM.out.below (HB02.out.trans (hB4.mono HB02.out.size))
       have hown := HDM2.own
       have hval : plainElem (H := Value) Tryz.prog 3 (.int .i64 (k : Int)) = some (.lit (.int .i64 (k : Int)), []) := plainElem_int Tryz.underlying3 (wfI (by omega) (by omega))
       have hkl' : keyOf Tryz.prog 55 (.agg #[.int .i64 r, .int .i64 q]) = some kl := hkl
       have HD2 := hid HDM2
       clear hHeld HCS HNO HDM2 hkl
       go_wp2_with (refine wpList_mapUpdate_own _ rfl _ _ _ 155 rfl 55 3 dotKeyed Tryz.underlying155 (plainElem Tryz.prog 3) (w.heap.size) k D rfl hown (by unfold maxLen; omega) _ _ kl rfl rfl hkl' (.lit (.int .i64 (k : Int))) [] hval ?_; intro w6 hown6 hgr6)
       have HD6 := hid (HD2.out.step (by rw [HE.out]; exact HKL.out) hown6)
       have hBX := HB2.out.trans (HBZ.out.mono HB2.out.size)
       have HB6 := hid (hBX.grown hgr6 hBX.size (fun t e => by injection e with e; omega))
       have HN : Hid (LvOk R F T n l (k + 1)) := hid (HI.out.step (by rw [HE.out]; exact yes_iff.1 HY1.out) (by rw [HE.out]; exact HA.out) (fun h => by rw [HE.out]; exact HORD.out h))
       go_roundw
       case rel => exact ⟨k + 1, hlt, by go_num, HB6, ⟨_, HD6⟩, HN⟩
       case measure => simp [intOf]; omega
      ·obtain ⟨j, hj⟩ : ∃ j, k = j + 1 := ⟨k - 1, by omega⟩
       obtain ⟨pa', pc', c0, s', c1, c2, c3, c4⟩ := HCC.out j (by omega)
       have q' := fun (o : Nat) => HB2.out.cell (p := ⟨b, o, none⟩) hb
       have j0 := (q' _).trans c0
       have j1 := (q' _).trans c1
       have j2 := (q' _).trans c2
       have j3 := (q' _).trans c3
       have j4 := (q' _).trans c4
       have HSJ := hid (s'.below HB2.out)
       have hpj := hp j
       obtain ⟨y', hy'⟩ : ∃ y', gL l j = y' := ⟨_, rfl⟩
       rw [hy'] at j0 j1 j2 j3 j4 HSJ hpj
       have HEJ := hid hy'
       obtain ⟨p', fl', r', q', v'⟩ := y'
       dsimp only at j0 j1 j2 j3 j4 HSJ hpj
       have zb : b < W2.heap.size := by have := HB2.out.size; omega
       have d2 : decide ((0 : Int) < (k : Int)) = true := by simp; omega
       have d3 : decide (0 < k) = true := by simp; omega
       have hsub : (k : Int) - 1 = (j : Int) := by omega
       have hwr : IntKind.i64.wrap (j : Int) = (j : Int) := by rw [IntKind.wrap_i64]; omega
       have hwr2 : IntKind.i64.wrap ((k : Int) - 1) = (j : Int) := by rw [hsub]; exact hwr
       have q1 : (0 : Int) ≤ (j : Int) := Int.natCast_nonneg _
       have q2 : (j : Int) < (l.length : Int) := by omega
       have HKJ := hid hj
       obtain ⟨X, hX⟩ : ∃ X, cmpL ⟨p', fl', r', q', v'⟩ ⟨p, fl, r, q, v⟩ = X := ⟨_, rfl⟩
       have HXE := hid hX
       have HCL : Hid (∀ W, Below W2.heap.size W2 W → Calls Tryz.prog 106 #[.agg #[.slice pa' p'.length pc', .bool fl', .int .i64 r', .int .i64 q', .string v'], .agg #[.slice pa p.length pc, .bool fl, .int .i64 r, .int .i64 q, .string v]] W fun e w' => e = .returned (.int .i64 X) ∧ Below W.heap.size W w') := hid (fun W hB => by rw [← hX]; exact compareLeaves pa' pa pc' pc p' p fl' fl r' q' r q v' v W hpj hpk (HSJ.out.below hB) (HSP.out.below hB))
       clear hX hj hk0 c0 c1 c2 c3 c4 s' hy'
       by_cases hX0 : (0 : Int) ≤ X
       ·have d4 : decide ((0 : Int) ≤ X) = true := by simpa using hX0
        have HCS : Hid (∀ w', Below W2.heap.size W2 w' → (Below W2.heap.size W2 w' ∧ w'.cell? ⟨wr.heap.size, 0, none⟩ = some (.slice pa p.length pc) ∧ w'.cell? ⟨wr.heap.size, 1, none⟩ = some (.bool fl) ∧ w'.cell? ⟨wr.heap.size, 2, none⟩ = some (.int .i64 r) ∧ w'.cell? ⟨wr.heap.size, 3, none⟩ = some (.int .i64 q) ∧ w'.cell? ⟨wr.heap.size, 4, none⟩ = some (.string v) ∧ w'.cell? ⟨b, off + j * 5, none⟩ = some (.slice pa' p'.length pc') ∧ w'.cell? ⟨b, off + j * 5 + 1, none⟩ = some (.bool fl') ∧ w'.cell? ⟨b, off + j * 5 + 2, none⟩ = some (.int .i64 r') ∧ w'.cell? ⟨b, off + j * 5 + 3, none⟩ = some (.int .i64 q') ∧ w'.cell? ⟨b, off + j * 5 + 4, none⟩ = some (.string v'))) := hid (fun w' hB => ⟨hB, (hB.cell (p := ⟨wr.heap.size, 0, none⟩) z2).trans y0, (hB.cell (p := ⟨wr.heap.size, 1, none⟩) z2).trans y1, (hB.cell (p := ⟨wr.heap.size, 2, none⟩) z2).trans y2, (hB.cell (p := ⟨wr.heap.size, 3, none⟩) z2).trans y3, (hB.cell (p := ⟨wr.heap.size, 4, none⟩) z2).trans y4, (hB.cell (p := ⟨b, off + j * 5, none⟩) zb).trans j0, (hB.cell (p := ⟨b, off + j * 5 + 1, none⟩) zb).trans j1, (hB.cell (p := ⟨b, off + j * 5 + 2, none⟩) zb).trans j2, (hB.cell (p := ⟨b, off + j * 5 + 3, none⟩) zb).trans j3, (hB.cell (p := ⟨b, off + j * 5 + 4, none⟩) zb).trans j4⟩)
        refine wp_region_held_drew (S := fun w' => Below W2.heap.size W2 w' ∧ w'.cell? ⟨wr.heap.size, 0, none⟩ = some (.slice pa p.length pc) ∧ w'.cell? ⟨wr.heap.size, 1, none⟩ = some (.bool fl) ∧ w'.cell? ⟨wr.heap.size, 2, none⟩ = some (.int .i64 r) ∧ w'.cell? ⟨wr.heap.size, 3, none⟩ = some (.int .i64 q) ∧ w'.cell? ⟨wr.heap.size, 4, none⟩ = some (.string v) ∧ w'.cell? ⟨b, off + j * 5, none⟩ = some (.slice pa' p'.length pc') ∧ w'.cell? ⟨b, off + j * 5 + 1, none⟩ = some (.bool fl') ∧ w'.cell? ⟨b, off + j * 5 + 2, none⟩ = some (.int .i64 r') ∧ w'.cell? ⟨b, off + j * 5 + 3, none⟩ = some (.int .i64 q') ∧ w'.cell? ⟨b, off + j * 5 + 4, none⟩ = some (.string v')) (by kernel_rfl) (HCS.out _ (Below.refl _ _).drew) (fun hHeld => ?_)
        refine tk 0 19 ?_ (by kernel_rfl) (fun _ _ _ h => h) ?_ hHeld ?_
        rotate_left
        ·(intro o ho; simp only [gZa, gZb, gZc, gZd] at ho; subst ho; refine Or.inl ⟨by rfl, ?_⟩; intro w hSw; (try dsimp only at hSw); go_simp; try with_reducible rfl)
        try simp only [Act.put, sZa, sZb, sZc]
        refine call1 (i := 1) (d := some 20) (by kernel_rfl) (by kernel_rfl) ?_
        intro o ho hod K hK; simp only [gZa, gZb, gZc, gZd] at ho; subst ho
        go_simp
        refine (HLO.out _ hHeld.1).mono ?_
        rintro e w3 ⟨rfl, b3⟩
        have hB3 := hHeld.1.trans (b3.mono hHeld.1.size)
        refine hK.out _ _ (HCS.out _ hB3) (fun hHeld => ?_)
        clear hK K
        try simp only [Act.put, sZa, sZb, sZc]
        refine tk 2 21 ?_ (by kernel_rfl) (fun _ _ _ h => h) ?_ hHeld (tk 3 22 ?_ (by kernel_rfl) (fun _ _ _ h => h) ?_ hHeld (tk 4 23 ?_ (by kernel_rfl) (fun _ _ _ h => h) ?_ hHeld (tk 5 24 ?_ (by kernel_rfl) (fun _ _ _ h => h) ?_ hHeld (tk 6 25 ?_ (by kernel_rfl) (fun _ _ _ h => h) ?_ hHeld ?_))))
        iterate 5 (rotate_left; focus (intro o ho; simp only [gZa, gZb, gZc, gZd] at ho; subst ho; refine Or.inl ⟨by rfl, ?_⟩; intro w hSw; (try dsimp only at hSw); (try simp only [Act.put, sZa, sZb, sZc]); go_simp; try with_reducible rfl))
        try simp only [Act.put, sZa, sZb, sZc]
        refine call1 (i := 7) (d := some 26) (by kernel_rfl) (by kernel_rfl) ?_
        intro o ho hod K hK; simp only [gZa, gZb, gZc, gZd] at ho; subst ho
        go_simp
        refine (HHA.out _ hHeld.1).mono ?_
        rintro e w4 ⟨rfl, b4⟩
        have hB4 := hHeld.1.trans (b4.mono hHeld.1.size)
        refine hK.out _ _ (HCS.out _ hB4) (fun hHeld => ?_)
        clear hK K
        try simp only [Act.put, sZa, sZb, sZc]
        refine tk 8 27 ?_ (by kernel_rfl) (fun _ _ _ h => h) ?_ hHeld (tk 9 28 ?_ (by kernel_rfl) (fun _ _ _ h => h) ?_ hHeld (tk 10 29 ?_ (by kernel_rfl) (fun _ _ _ h => h) ?_ hHeld (tk 11 30 ?_ (by kernel_rfl) (fun _ _ _ h => h) ?_ hHeld (tk 12 31 ?_ (by kernel_rfl) (fun _ _ _ h => h) ?_ hHeld ?_))))
        iterate 5 (rotate_left; focus (intro o ho; simp only [gZa, gZb, gZc, gZd] at ho; subst ho; refine Or.inl ⟨by rfl, ?_⟩; intro w hSw; (try dsimp only at hSw); (try simp only [Act.put, sZa, sZb, sZc]); go_simp; try with_reducible rfl))
        try simp only [Act.put, sZa, sZb, sZc]
        refine tk 13 32 ?_ (by kernel_rfl) (fun _ _ _ h => h) ?_ hHeld (tk 14 33 ?_ (by kernel_rfl) (fun _ _ _ h => h) ?_ hHeld (tk 15 34 ?_ (by kernel_rfl) (fun _ _ _ h => h) ?_ hHeld (tk 16 35 ?_ (by kernel_rfl) (fun _ _ _ h => h) ?_ hHeld (tk 17 36 ?_ (by kernel_rfl) (fun _ _ _ h => h) ?_ hHeld ?_))))
        iterate 5 (rotate_left; focus (intro o ho; simp only [gZa, gZb, gZc, gZd] at ho; subst ho; refine Or.inl ⟨by rfl, ?_⟩; intro w hSw; (try dsimp only at hSw); (try simp only [Act.put, sZa, sZb, sZc]); go_simp; try with_reducible rfl))
        try simp only [Act.put, sZa, sZb, sZc]
        refine tk 18 37 ?_ (by kernel_rfl) (fun _ _ _ h => h) ?_ hHeld (tk 19 38 ?_ (by kernel_rfl) (fun _ _ _ h => h) ?_ hHeld ?_)
        iterate 2 (rotate_left; focus (intro o ho; simp only [gZa, gZb, gZc, gZd] at ho; subst ho; refine Or.inl ⟨by rfl, ?_⟩; intro w hSw; (try dsimp only at hSw); (try simp only [Act.put, sZa, sZb, sZc]); go_simp; try with_reducible rfl))
        try simp only [Act.put, sZa, sZb, sZc]
        refine call1 (i := 20) (d := some 39) (by kernel_rfl) (by kernel_rfl) ?_
        intro o ho hod K hK; simp only [gZa, gZb, gZc, gZd] at ho; subst ho
        go_simp
        refine (HCL.out _ hHeld.1).mono ?_
        rintro e w5 ⟨rfl, b5⟩
        have hB5 := hHeld.1.trans (b5.mono hHeld.1.size)
        refine hK.out _ _ (HCS.out _ hB5) (fun hHeld => ?_)
        clear hK K
        try simp only [Act.put, sZa, sZb, sZc]
        refine tk 21 40 ?_ (by kernel_rfl) (fun _ _ _ h => h) ?_ hHeld (tk 22 41 ?_ (by kernel_rfl) (fun _ _ _ h => h) ?_ hHeld (tk 23 42 ?_ (by kernel_rfl) (fun _ _ _ h => h) ?_ hHeld ?_))
        iterate 3 (rotate_left; focus (intro o ho; simp only [gZa, gZb, gZc, gZd] at ho; subst ho; refine Or.inl ⟨by rfl, ?_⟩; intro w hSw; (try dsimp only at hSw); (try simp only [Act.put, sZa, sZb, sZc]); go_simp; try with_reducible rfl))
        try simp only [Act.put, sZa, sZb, sZc]
        refine wpAnyH_done (by kernel_rfl) ?_ _
        have HF := hid (HNO.out (fun h => by have e := h.2.2 (by have := HKJ.out; omega); rw [show k - 1 = j by have := HKJ.out; omega, HEJ.out, HXE.out] at e; omega))
        have HZ := hid (HB2.out.trans (hB5.mono HB2.out.size))
        clear hHeld HCS HNO
        go_wp2_with fail
        go_ret
        exact ⟨ret_b HF.out.symm, HZ.out⟩
       ·have d4 : decide ((0 : Int) ≤ X) = false := by simpa using hX0
        have HORD : Hid (0 < k → cmpL (gL l (k - 1)) ⟨p, fl, r, q, v⟩ < 0) := hid (fun _ => by rw [show k - 1 = j by have := HKJ.out; omega, HEJ.out, HXE.out]; omega)
        have HCS : Hid (∀ w', Below W2.heap.size W2 w' → (Below W2.heap.size W2 w' ∧ w'.cell? ⟨wr.heap.size, 0, none⟩ = some (.slice pa p.length pc) ∧ w'.cell? ⟨wr.heap.size, 1, none⟩ = some (.bool fl) ∧ w'.cell? ⟨wr.heap.size, 2, none⟩ = some (.int .i64 r) ∧ w'.cell? ⟨wr.heap.size, 3, none⟩ = some (.int .i64 q) ∧ w'.cell? ⟨wr.heap.size, 4, none⟩ = some (.string v) ∧ w'.cell? ⟨b, off + j * 5, none⟩ = some (.slice pa' p'.length pc') ∧ w'.cell? ⟨b, off + j * 5 + 1, none⟩ = some (.bool fl') ∧ w'.cell? ⟨b, off + j * 5 + 2, none⟩ = some (.int .i64 r') ∧ w'.cell? ⟨b, off + j * 5 + 3, none⟩ = some (.int .i64 q') ∧ w'.cell? ⟨b, off + j * 5 + 4, none⟩ = some (.string v'))) := hid (fun w' hB => ⟨hB, (hB.cell (p := ⟨wr.heap.size, 0, none⟩) z2).trans y0, (hB.cell (p := ⟨wr.heap.size, 1, none⟩) z2).trans y1, (hB.cell (p := ⟨wr.heap.size, 2, none⟩) z2).trans y2, (hB.cell (p := ⟨wr.heap.size, 3, none⟩) z2).trans y3, (hB.cell (p := ⟨wr.heap.size, 4, none⟩) z2).trans y4, (hB.cell (p := ⟨b, off + j * 5, none⟩) zb).trans j0, (hB.cell (p := ⟨b, off + j * 5 + 1, none⟩) zb).trans j1, (hB.cell (p := ⟨b, off + j * 5 + 2, none⟩) zb).trans j2, (hB.cell (p := ⟨b, off + j * 5 + 3, none⟩) zb).trans j3, (hB.cell (p := ⟨b, off + j * 5 + 4, none⟩) zb).trans j4⟩)
        refine wp_region_held_drew (S := fun w' => Below W2.heap.size W2 w' ∧ w'.cell? ⟨wr.heap.size, 0, none⟩ = some (.slice pa p.length pc) ∧ w'.cell? ⟨wr.heap.size, 1, none⟩ = some (.bool fl) ∧ w'.cell? ⟨wr.heap.size, 2, none⟩ = some (.int .i64 r) ∧ w'.cell? ⟨wr.heap.size, 3, none⟩ = some (.int .i64 q) ∧ w'.cell? ⟨wr.heap.size, 4, none⟩ = some (.string v) ∧ w'.cell? ⟨b, off + j * 5, none⟩ = some (.slice pa' p'.length pc') ∧ w'.cell? ⟨b, off + j * 5 + 1, none⟩ = some (.bool fl') ∧ w'.cell? ⟨b, off + j * 5 + 2, none⟩ = some (.int .i64 r') ∧ w'.cell? ⟨b, off + j * 5 + 3, none⟩ = some (.int .i64 q') ∧ w'.cell? ⟨b, off + j * 5 + 4, none⟩ = some (.string v')) (by kernel_rfl) (HCS.out _ (Below.refl _ _).drew) (fun hHeld => ?_)
        refine tk 0 19 ?_ (by kernel_rfl) (fun _ _ _ h => h) ?_ hHeld ?_
        rotate_left
        ·(intro o ho; simp only [gZa, gZb, gZc, gZd] at ho; subst ho; refine Or.inl ⟨by rfl, ?_⟩; intro w hSw; (try dsimp only at hSw); go_simp; try with_reducible rfl)
        try simp only [Act.put, sZa, sZb, sZc]
        refine call1 (i := 1) (d := some 20) (by kernel_rfl) (by kernel_rfl) ?_
        intro o ho hod K hK; simp only [gZa, gZb, gZc, gZd] at ho; subst ho
        go_simp
        refine (HLO.out _ hHeld.1).mono ?_
        rintro e w3 ⟨rfl, b3⟩
        have hB3 := hHeld.1.trans (b3.mono hHeld.1.size)
        refine hK.out _ _ (HCS.out _ hB3) (fun hHeld => ?_)
        clear hK K
        try simp only [Act.put, sZa, sZb, sZc]
        refine tk 2 21 ?_ (by kernel_rfl) (fun _ _ _ h => h) ?_ hHeld (tk 3 22 ?_ (by kernel_rfl) (fun _ _ _ h => h) ?_ hHeld (tk 4 23 ?_ (by kernel_rfl) (fun _ _ _ h => h) ?_ hHeld (tk 5 24 ?_ (by kernel_rfl) (fun _ _ _ h => h) ?_ hHeld (tk 6 25 ?_ (by kernel_rfl) (fun _ _ _ h => h) ?_ hHeld ?_))))
        iterate 5 (rotate_left; focus (intro o ho; simp only [gZa, gZb, gZc, gZd] at ho; subst ho; refine Or.inl ⟨by rfl, ?_⟩; intro w hSw; (try dsimp only at hSw); (try simp only [Act.put, sZa, sZb, sZc]); go_simp; try with_reducible rfl))
        try simp only [Act.put, sZa, sZb, sZc]
        refine call1 (i := 7) (d := some 26) (by kernel_rfl) (by kernel_rfl) ?_
        intro o ho hod K hK; simp only [gZa, gZb, gZc, gZd] at ho; subst ho
        go_simp
        refine (HHA.out _ hHeld.1).mono ?_
        rintro e w4 ⟨rfl, b4⟩
        have hB4 := hHeld.1.trans (b4.mono hHeld.1.size)
        refine hK.out _ _ (HCS.out _ hB4) (fun hHeld => ?_)
        clear hK K
        try simp only [Act.put, sZa, sZb, sZc]
        refine tk 8 27 ?_ (by kernel_rfl) (fun _ _ _ h => h) ?_ hHeld (tk 9 28 ?_ (by kernel_rfl) (fun _ _ _ h => h) ?_ hHeld (tk 10 29 ?_ (by kernel_rfl) (fun _ _ _ h => h) ?_ hHeld (tk 11 30 ?_ (by kernel_rfl) (fun _ _ _ h => h) ?_ hHeld (tk 12 31 ?_ (by kernel_rfl) (fun _ _ _ h => h) ?_ hHeld ?_))))
        iterate 5 (rotate_left; focus (intro o ho; simp only [gZa, gZb, gZc, gZd] at ho; subst ho; refine Or.inl ⟨by rfl, ?_⟩; intro w hSw; (try dsimp only at hSw); (try simp only [Act.put, sZa, sZb, sZc]); go_simp; try with_reducible rfl))
        try simp only [Act.put, sZa, sZb, sZc]
        refine tk 13 32 ?_ (by kernel_rfl) (fun _ _ _ h => h) ?_ hHeld (tk 14 33 ?_ (by kernel_rfl) (fun _ _ _ h => h) ?_ hHeld (tk 15 34 ?_ (by kernel_rfl) (fun _ _ _ h => h) ?_ hHeld (tk 16 35 ?_ (by kernel_rfl) (fun _ _ _ h => h) ?_ hHeld (tk 17 36 ?_ (by kernel_rfl) (fun _ _ _ h => h) ?_ hHeld ?_))))
        iterate 5 (rotate_left; focus (intro o ho; simp only [gZa, gZb, gZc, gZd] at ho; subst ho; refine Or.inl ⟨by rfl, ?_⟩; intro w hSw; (try dsimp only at hSw); (try simp only [Act.put, sZa, sZb, sZc]); go_simp; try with_reducible rfl))
        try simp only [Act.put, sZa, sZb, sZc]
        refine tk 18 37 ?_ (by kernel_rfl) (fun _ _ _ h => h) ?_ hHeld (tk 19 38 ?_ (by kernel_rfl) (fun _ _ _ h => h) ?_ hHeld ?_)
        iterate 2 (rotate_left; focus (intro o ho; simp only [gZa, gZb, gZc, gZd] at ho; subst ho; refine Or.inl ⟨by rfl, ?_⟩; intro w hSw; (try dsimp only at hSw); (try simp only [Act.put, sZa, sZb, sZc]); go_simp; try with_reducible rfl))
        try simp only [Act.put, sZa, sZb, sZc]
        refine call1 (i := 20) (d := some 39) (by kernel_rfl) (by kernel_rfl) ?_
        intro o ho hod K hK; simp only [gZa, gZb, gZc, gZd] at ho; subst ho
        go_simp
        refine (HCL.out _ hHeld.1).mono ?_
        rintro e w5 ⟨rfl, b5⟩
        have hB5 := hHeld.1.trans (b5.mono hHeld.1.size)
        refine hK.out _ _ (HCS.out _ hB5) (fun hHeld => ?_)
        clear hK K
        try simp only [Act.put, sZa, sZb, sZc]
        refine tk 21 40 ?_ (by kernel_rfl) (fun _ _ _ h => h) ?_ hHeld (tk 22 41 ?_ (by kernel_rfl) (fun _ _ _ h => h) ?_ hHeld (tk 23 42 ?_ (by kernel_rfl) (fun _ _ _ h => h) ?_ hHeld ?_))
        iterate 3 (rotate_left; focus (intro o ho; simp only [gZa, gZb, gZc, gZd] at ho; subst ho; refine Or.inl ⟨by rfl, ?_⟩; intro w hSw; (try dsimp only at hSw); (try simp only [Act.put, sZa, sZb, sZc]); go_simp; try with_reducible rfl))
        try simp only [Act.put, sZa, sZb, sZc]
        refine wpAnyH_done (by kernel_rfl) ?_ _
        have HBZ := hid hB5
        have y2 := (hB5.cell (p := ⟨wr.heap.size, 2, none⟩) z2).trans y2
        have y3 := (hB5.cell (p := ⟨wr.heap.size, 3, none⟩) z2).trans y3
        obtain ⟨kl, hkl⟩ := dotKey hwf.1 hwf.2
        have HKL := hid hkl
        have HDM2 := HDM.out.below (HB02.out.trans (hB5.mono HB02.out.size))
        have hown := HDM2.own
        have hval : plainElem (H := Value) Tryz.prog 3 (.int .i64 (k : Int)) = some (.lit (.int .i64 (k : Int)), []) := plainElem_int Tryz.underlying3 (wfI (by omega) (by omega))
        have hkl' : keyOf Tryz.prog 55 (.agg #[.int .i64 r, .int .i64 q]) = some kl := hkl
        have HD2 := hid HDM2
        clear hHeld HCS HNO HDM2 hkl
        go_wp2_with (refine wpList_mapUpdate_own _ rfl _ _ _ 155 rfl 55 3 dotKeyed Tryz.underlying155 (plainElem Tryz.prog 3) (w.heap.size) k D rfl hown (by unfold maxLen; omega) _ _ kl rfl rfl hkl' (.lit (.int .i64 (k : Int))) [] hval ?_; intro w6 hown6 hgr6)
        have HD6 := hid (HD2.out.step (by rw [HE.out]; exact HKL.out) hown6)
        have hBX := HB2.out.trans (HBZ.out.mono HB2.out.size)
        have HB6 := hid (hBX.grown hgr6 hBX.size (fun t e => by injection e with e; omega))
        have HN : Hid (LvOk R F T n l (k + 1)) := hid (HI.out.step (by rw [HE.out]; exact yes_iff.1 HY1.out) (by rw [HE.out]; exact HA.out) (fun h => by rw [HE.out]; exact HORD.out h))
        go_roundw
        case rel => exact ⟨k + 1, hlt, by go_num, HB6, ⟨_, HD6⟩, HN⟩
        case measure => simp [intOf]; omega
   ·obtain rfl : k = l.length := by omega
    have hown := HDM.out.own
    have HSZ : Hid (Y = ((Maps.size D : Int) == (l.length : Int))) := hid (by
     rw [← HY.out]
     by_cases e : Maps.size D = l.length
     ·rw [yes_t ⟨by omega, HI.out, fun i hi j hj => HDM.out.eq.1 e i hi j hj⟩, e]; simp
     ·rw [yes_f (fun h => e (HDM.out.eq.2 (fun i hi j hj => h.2.2 i hi j hj)))]; symm; simp; omega)
    have HZ := hid HBR.out
    go_wp2_with (refine wpList_len_own _ rfl _ 155 rfl 55 3 Tryz.underlying155 _ _ _ _ rfl hown ?_)
    go_ret
    exact ⟨ret_b HSZ.out.symm, HZ.out⟩
end Go.Proofs.YtcbcabhjododoaaGreat
namespace Go.Proofs.YtcbcabhjododoaaGreat
open Go.ChangeShapes Go.WideShapes Go.ChangeAt Go.RowKit
theorem openRunsC (a : Option Addr) (c : Nat) (l : List Lf) (x : Option Addr) (n d : Nat) (R F T : Nat → Int) (w : World) (hn : l.length ≤ 1048576) (hp : LBd l) (hi : ∀ i, LfI (gL l i)) (hm : n ≤ 1048576) (h : LSeg w a l) (h' : RSeg w x n R F T) :
  Calls Tryz.prog 73 #[.agg #[.slice a l.length c, .slice x n d]] w fun e w' => (∃ M, e = .returned (.tuple #[M, .bool (yes (StOk R F T n l))])) ∧ Below w.heap.size w w' := by
 obtain ⟨W, hW⟩ : ∃ W, w.alloc (.cells #[.slice a l.length c, .slice x n d] 36) = W := ⟨_, rfl⟩
 have b0 : Below w.heap.size w W := by rw [← hW]; exact (Below.refl _ _).alloc (Nat.le_refl _) _
 have zW : w.heap.size < W.heap.size := by rw [← hW]; simp
 have k0 : W.cell? ⟨w.heap.size, 0, none⟩ = some (.slice a l.length c) := by rw [← hW]; simp
 have k1 : W.cell? ⟨w.heap.size, 1, none⟩ = some (.slice x n d) := by rw [← hW]; simp
 have HL := hid (h.below b0)
 have HR := hid (h'.below b0)
 have HB0 := hid b0
 clear h h' b0
 obtain ⟨Y, hY⟩ : ∃ Y, yes (StOk R F T n l) = Y := ⟨_, rfl⟩
 have HY := hid hY
 rw [hY]
 clear hY
 cases hcx : ctxB R F T n with
 | false =>
  have HF : Hid (Y = false) := hid (by rw [← HY.out]; exact yes_f (fun h => by have := h.1; rw [hcx] at this; cases this))
  have HO := hid (openC_no x n d R F T W hm HR.out hcx)
  have eF := HF.out
  clear hcx HF HY
  subst eF
  go_enter Tryz.func73, Tryz.ntmps73
  go_wp2_with fail
  try rw [hW]
  clear hW
  refine HO.out.mono ?_
  rintro e w1 ⟨rfl, b1⟩
  have m0 := (b1.cell (p := ⟨w.heap.size, 0, none⟩) zW).trans k0
  have HZ := hid (keepS HB0.out b1)
  clear b1 HO k0 k1
  go_wp2_with fail
  go_ret2
  exact ⟨⟨_, rfl⟩, HZ.out⟩
 | true =>
  have hokT := ctxB_iff.1 hcx
  have HO := hid (openC x n d R F T W hm HR.out hcx)
  have HS : Hid (∀ r, Srt (Lk R F T n r)) := hid (fun r => (Lk_srt n hokT.1 r).1)
  have HN : Hid (∀ r, (Lk R F T n r).length ≤ 1000000) := hid (fun r => by have := Lk_len R F T n r; have := hokT.2; omega)
  have HE : Hid (Y = yes (LsOk R F T n l)) := hid (by
   rw [← HY.out]
   by_cases e : LsOk R F T n l
   ·rw [yes_t e, yes_t ⟨hcx, e.1, e.2.1, e.2.2⟩]
   ·rw [yes_f e, yes_f (fun h => e ⟨h.2.1, h.2.2.1, h.2.2.2⟩)])
  clear hokT hcx
  go_enter Tryz.func73, Tryz.ntmps73
  go_wp2_with fail
  try rw [hW]
  clear hW
  refine HO.out.mono ?_
  rintro e w1 ⟨bm, D, G, rfl, hgrp, hbm, b1⟩
  have m0 := (b1.cell (p := ⟨w.heap.size, 0, none⟩) zW).trans k0
  have HC := hid (leavesOk a c l bm n D G R F T w1 hn hp hi (HL.out.below b1) hgrp HS.out HN.out)
  have HZ := hid (keepS HB0.out b1)
  clear b1 HO k0 k1 hgrp hbm
  go_wp2_with fail
  refine HC.out.mono ?_
  rintro e w2 ⟨rfl, b2⟩
  have HZ2 := hid (keepS HZ.out b2)
  rw [← HE.out]
  clear b2 HC HE
  cases Y with
  | true =>
   go_wp2_with fail
   go_ret2
   exact ⟨⟨_, rfl⟩, HZ2.out⟩
  | false =>
   go_wp2_with fail
   go_ret2
   exact ⟨⟨_, rfl⟩, HZ2.out⟩
end Go.Proofs.YtcbcabhjododoaaGreat
namespace Go.Proofs.YtcbcabhjododoaaGreat
open Go.ChangeShapes Go.WideShapes Go.ChangeAt Go.RowKit Go.Maps
noncomputable def Mk (l : List Lf) : Nat → List Ky → Dt → Option ByteArray
 | 0 => fun _ _ => none
 | k + 1 => updM (Mk l k) (wayOf (gL l k).p (kd (gL l k).fl)) ((gL l k).r, (gL l k).q) (gL l k).v
def Way (x : Lf) : List Ky := wayOf x.p (kd x.fl)
theorem Mk_ne {l : List Lf} {p : List Ky} {d : Dt} : ∀ {k : Nat}, Mk l k p d ≠ none ↔ ∃ j, j < k ∧ Way (gL l j) = p ∧ ((gL l j).r, (gL l j).q) = d
 | 0 => ⟨fun h => absurd rfl h, fun ⟨j, hj, _⟩ => by omega⟩
 | k + 1 => by
  have ih := Mk_ne (l := l) (p := p) (d := d) (k := k)
  simp only [Mk]
  by_cases e : p = wayOf (gL l k).p (kd (gL l k).fl)
  ·rw [e, updM_same, ← e]
   by_cases e2 : d = ((gL l k).r, (gL l k).q)
   ·rw [e2, updF_same]
    exact ⟨fun _ => ⟨k, by omega, e.symm, rfl⟩, fun _ h => by cases h⟩
   ·rw [updF_other _ _ e2, ih]
    constructor
    ·rintro ⟨j, hj, r⟩; exact ⟨j, by omega, r⟩
    ·rintro ⟨j, hj, r1, r2⟩
     by_cases ej : j = k
     ·subst ej; exact absurd r2.symm e2
     ·exact ⟨j, by omega, r1, r2⟩
  ·rw [updM_other _ _ _ e, ih]
   constructor
   ·rintro ⟨j, hj, r⟩; exact ⟨j, by omega, r⟩
   ·rintro ⟨j, hj, r1, r2⟩
    by_cases ej : j = k
    ·subst ej; exact absurd r1.symm e
    ·exact ⟨j, by omega, r1, r2⟩
def NkI (l : List Lf) (k : Nat) (N : List Ky → Option (Nat × Nat)) : Prop := ∀ z, (N z).isSome = true ↔ z = [] ∨ ∃ j, j < k ∧ z <+: Way (gL l j)
theorem openRunsK (a : Option Addr) (c : Nat) (l : List Lf) (x : Option Addr) (n d : Nat) (R F T : Nat → Int) (w : World) (hn : l.length ≤ 1048576) (hp : LBd l) (hi : ∀ i, LfI (gL l i)) (hm : n ≤ 1048576) (h : LSeg w a l) (h' : RSeg w x n R F T) (hok : StOk R F T n l) :
  Calls Tryz.prog 73 #[.agg #[.slice a l.length c, .slice x n d]] w fun e w' => (∃ bm D G, e = .returned (.tuple #[.map (some bm), .bool true]) ∧ GrpAt w' bm n D G (Lk R F T n) ∧ w.heap.size ≤ bm) ∧ Below w.heap.size w w' := by
 obtain ⟨W, hW⟩ : ∃ W, w.alloc (.cells #[.slice a l.length c, .slice x n d] 36) = W := ⟨_, rfl⟩
 have b0 : Below w.heap.size w W := by rw [← hW]; exact (Below.refl _ _).alloc (Nat.le_refl _) _
 have zW : w.heap.size < W.heap.size := by rw [← hW]; simp
 have k0 : W.cell? ⟨w.heap.size, 0, none⟩ = some (.slice a l.length c) := by rw [← hW]; simp
 have k1 : W.cell? ⟨w.heap.size, 1, none⟩ = some (.slice x n d) := by rw [← hW]; simp
 have HL := hid (h.below b0)
 have HR := hid (h'.below b0)
 have HB0 := hid b0
 clear h h' b0
 have hcx := hok.1
 have hokT := ctxB_iff.1 hcx
 have HO := hid (openC x n d R F T W hm HR.out hcx)
 have HS : Hid (∀ r, Srt (Lk R F T n r)) := hid (fun r => (Lk_srt n hokT.1 r).1)
 have HN : Hid (∀ r, (Lk R F T n r).length ≤ 1000000) := hid (fun r => by have := Lk_len R F T n r; have := hokT.2; omega)
 have HE : Hid (yes (LsOk R F T n l) = true) := hid (yes_t ⟨hok.2.1, hok.2.2.1, hok.2.2.2⟩)
 have HZW := hid zW
 clear hokT hcx hok
 go_enter Tryz.func73, Tryz.ntmps73
 go_wp2_with fail
 try rw [hW]
 clear hW
 refine HO.out.mono ?_
 rintro e w1 ⟨bm, D, G, rfl, hgrp, hbm, b1⟩
 have m0 := (b1.cell (p := ⟨w.heap.size, 0, none⟩) HZW.out).trans k0
 have HC := hid (leavesOk a c l bm n D G R F T w1 hn hp hi (HL.out.below b1) hgrp HS.out HN.out)
 have HZ := hid (keepS HB0.out b1)
 have HGR := hid hgrp
 have HBM := hid hbm
 clear b1 HO k0 k1 hgrp hbm zW
 go_wp2_with fail
 refine HC.out.mono ?_
 rintro e w2 ⟨rfl, b2⟩
 have HZ2 := hid (keepS HZ.out b2)
 have HG2 := hid (HGR.out.below b2)
 rw [HE.out]
 clear b2 HC HE
 go_wp2_with fail
 go_ret2
 exact ⟨⟨bm, D, G, rfl, HG2.out, Nat.le_trans (Nat.le_of_lt HZW.out) HBM.out⟩, HZ2.out⟩
end Go.Proofs.YtcbcabhjododoaaGreat
