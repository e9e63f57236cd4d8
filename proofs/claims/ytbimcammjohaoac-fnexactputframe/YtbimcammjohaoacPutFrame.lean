import Derived.Test.YtbimcammjohaoacFh
namespace Go.Proofs.Ytbimcammjohaoac.fnExactPutFrame
open Go.ChangeShapes Go.WideShapes Go.ChangeAt Go.RowKit
set_option linter.unusedVariables false
set_option linter.unusedSimpArgs false

set_option maxRecDepth 100000 in
set_option maxHeartbeats 1000000 in
theorem walk (w : World) (k : Int) (a : Option Addr) (n c : Nat) (f : Nat → Int) (hk : (Lit.int .i64 k).wf = true) (hn : n ≤ 9223372036854775807) (h : Seg w a n f) (hf : Byt f) :
    Calls Try.prog 3 #[.agg #[.int .i64 k, .slice a n c]] w fun e w' => e = .returned (.bool true) ∧ Below w.heap.size w w' := by
  have hk2 := bounds_i64 hk
  obtain ⟨W0, hW0⟩ : ∃ W0, w.alloc (.cells #[.int .i64 k, .slice a n c] 24) = W0 := ⟨_, rfl⟩
  have b0 : Below w.heap.size w W0 := by rw [← hW0]; exact (Below.refl _ _).alloc (Nat.le_refl _) _
  have HZ0 : Hid (W0.heap.size = w.heap.size + 1) := by rw [← hW0]; exact hid (by simp)
  have xa0 : W0.cell? ⟨w.heap.size, 0, none⟩ = some (.int .i64 k) := by rw [← hW0]; simp
  have xb0 : W0.cell? ⟨w.heap.size, 1, none⟩ = some (.slice a n c) := by rw [← hW0]; simp
  have HB0 := hid b0
  have HSA0 := hid (h.below b0)
  have HH := hid h
  have HSZ := hid (szFrameC k a n c W0 hn)
  clear b0 h
  by_cases hl : n ≤ 1048576
  · have HL : Hid (szL n = 1048576 - (n : Int)) := hid (if_pos hl)
    rw [HL.out] at HSZ
    have d0 : decide (1048576 - (n : Int) < 0) = false := by simp; omega
    have HTO : Hid (∀ w', Seg w' a n f → Calls Try.prog 9 #[.agg #[.int .i64 k, .slice a n c]] w' fun e w2 => ∃ g xs, e = .returned (.agg #[.int .i64 k, .slice (some ⟨g, 0, none⟩) n n]) ∧ w'.heap.size ≤ g ∧ g < w2.heap.size ∧ Seg w2 (some ⟨g, 0, none⟩) n f ∧ w2.ownsRow w'.heap.size 5 1 (.slice (some ⟨g, 0, none⟩) n n) n xs ∧ Below w'.heap.size w' w2) := fun w' hs => toFrameC k a n c f w' hl hf hs
    have HSP : Hid (∀ (g : Nat) (w' : World), Seg w' (some ⟨g, 0, none⟩) n f → Calls Try.prog 8 #[.agg #[.int .i64 k, .slice (some ⟨g, 0, none⟩) n n]] w' fun e w2 => ∃ v, e = .returned (.tuple #[v, .bool (okF k n)]) ∧ Own w2 w'.heap.size v (frZ k f n) ∧ Below w'.heap.size w' w2) := fun g w' hs => specPF g n k f w' hk2.1 hk2.2 hl hf hs
    have HIM : Hid (∀ (g : Nat) (w' : World), Seg w' (some ⟨g, 0, none⟩) n f → Calls Try.prog 10 #[.agg #[.int .i64 k, .slice (some ⟨g, 0, none⟩) n n]] w' fun e w2 => ∃ v, e = .returned (.tuple #[v, .bool (okF k n)]) ∧ Own w2 w'.heap.size v (frZ k f n) ∧ Below w'.heap.size w' w2) := fun g w' hs => implPF g n k f w' hk2.1 hk2.2 hl hf hs
    have HLen := frZ_len k f n
    obtain ⟨C, hC⟩ : ∃ C, okF k n = C := ⟨_, rfl⟩
    obtain ⟨zs, hzs⟩ : ∃ zs, frZ k f n = zs := ⟨_, rfl⟩
    rw [hC, hzs] at HSP HIM
    rw [hzs] at HLen
    clear hC hzs hf hk hk2
    go_enter Try.func3, Try.ntmps3
    go_wp2_with fail
    try rw [hW0]
    clear hW0
    refine HSZ.out.mono ?_
    rintro e wS ⟨rfl, bS⟩
    have hz := HZ0.out
    clear HSZ HZ0
    have xaS := (bS.cell (p := ⟨w.heap.size, 0, none⟩) (show w.heap.size < W0.heap.size by omega)).trans xa0
    have xbS := (bS.cell (p := ⟨w.heap.size, 1, none⟩) (show w.heap.size < W0.heap.size by omega)).trans xb0
    have HBS := hid (keepS HB0.out bS)
    have HSAS := hid (HSA0.out.below bS)
    have zzS := bS.size
    clear bS xa0 xb0 HB0 HSA0
    go_wp2_with fail
    refine (HTO.out wS HSAS.out).mono ?_
    rintro e w1 ⟨g1, xs1, rfl, hg1, hg1', s1, o1, b1⟩
    have HT1 := hid s1
    clear s1 o1
    have xa1 := (b1.cell (p := ⟨w.heap.size, 0, none⟩) (show w.heap.size < wS.heap.size by omega)).trans xaS
    have xb1 := (b1.cell (p := ⟨w.heap.size, 1, none⟩) (show w.heap.size < wS.heap.size by omega)).trans xbS
    have HB1 := hid (keepS HBS.out b1)
    have HSA1 := hid (HSAS.out.below b1)
    have zz1 := b1.size
    clear b1 xaS xbS HBS HSAS
    go_wp2_with fail
    refine (HSP.out g1 w1 HT1.out).mono ?_
    rintro e w2 ⟨v2, rfl, o2, b2⟩
    have HO_2 := hid o2
    have HV2 : Hid (∀ q, v2.ownBlock = some q → q < w2.heap.size) := hid fun q hq => (World.ownsRow.lt o2 q hq).2
    clear o2 HT1
    have xa2 := (b2.cell (p := ⟨w.heap.size, 0, none⟩) (show w.heap.size < w1.heap.size by omega)).trans xa1
    have xb2 := (b2.cell (p := ⟨w.heap.size, 1, none⟩) (show w.heap.size < w1.heap.size by omega)).trans xb1
    have HB2 := hid (keepS HB1.out b2)
    have HSA2 := hid (HSA1.out.below b2)
    have zz2 := b2.size
    clear b2 xa1 xb1 HB1 HSA1
    go_wp2_with fail
    refine (HTO.out w2 HSA2.out).mono ?_
    rintro e w3 ⟨g3, xs3, rfl, hg3, hg3', s3, o3, b3⟩
    obtain ⟨W4, hW4⟩ : ∃ W4, w3.alloc (.cells #[.int .i64 k, .slice (some ⟨g3, 0, none⟩) n n] 28) = W4 := ⟨_, rfl⟩
    have b4' : Below w3.heap.size w3 W4 := by rw [← hW4]; exact (Below.refl _ _).alloc (Nat.le_refl _) _
    have b4 := keepS b3 b4'
    have zz34 : w3.heap.size < W4.heap.size := by rw [← hW4]; simp
    have xy4 : W4.cell? ⟨w3.heap.size, 0, none⟩ = some (.int .i64 k) := by rw [← hW4]; simp
    have xz4 : W4.cell? ⟨w3.heap.size, 1, none⟩ = some (.slice (some ⟨g3, 0, none⟩) n n) := by rw [← hW4]; simp
    have HX_4 := hid (s3.below b4')
    have HR_4 : Hid (W4.ownsRow w2.heap.size 5 1 (.slice (some ⟨g3, 0, none⟩) n n) n xs3) := by rw [← hW4]; exact hid (o3.alloc _)
    have zz23 := b3.size
    clear s3 o3 b3 b4'
    have xa4 := (b4.cell (p := ⟨w.heap.size, 0, none⟩) (show w.heap.size < w2.heap.size by omega)).trans xa2
    have xb4 := (b4.cell (p := ⟨w.heap.size, 1, none⟩) (show w.heap.size < w2.heap.size by omega)).trans xb2
    have HB4 := hid (keepS HB2.out b4)
    have HSA4 := hid (HSA2.out.below b4)
    have zz4 := b4.size
    have HO_4 := hid (HO_2.out.kept b4 (fun q hq => (World.ownsRow.lt HO_2.out q hq).2))
    clear b4 xa2 xb2 HB2 HSA2 HO_2
    go_wp2_with fail
    try rw [hW4]
    clear hW4
    refine (HIM.out g3 W4 HX_4.out).mono ?_
    rintro e w5 ⟨v5, rfl, o5, b5⟩
    have HG_5 := hid o5
    have HV5 : Hid (∀ q, v5.ownBlock = some q → W4.heap.size ≤ q) := hid fun q hq => (World.ownsRow.lt o5 q hq).1
    have HX_5 := hid (HX_4.out.below b5)
    have HR_5 : Hid (w5.ownsRow w2.heap.size 5 1 (.slice (some ⟨g3, 0, none⟩) n n) n xs3) := hid (World.ownsRow.kept HR_4.out (⟨b5.os, b5.tape, b5.output, b5.size, fun k hk _ => b5.block k hk⟩ : W4.grownBy w5 none) (.inr (by simp [Value.ownBlock])))
    clear o5 HX_4 HR_4
    have xa5 := (b5.cell (p := ⟨w.heap.size, 0, none⟩) (show w.heap.size < W4.heap.size by omega)).trans xa4
    have xb5 := (b5.cell (p := ⟨w.heap.size, 1, none⟩) (show w.heap.size < W4.heap.size by omega)).trans xb4
    have HB5 := hid (keepS HB4.out b5)
    have HSA5 := hid (HSA4.out.below b5)
    have zz5 := b5.size
    have HO_5 := hid (HO_4.out.kept b5 (fun q hq => (World.ownsRow.lt HO_4.out q hq).2))
    have xy5 := (b5.cell (p := ⟨w3.heap.size, 0, none⟩) (show w3.heap.size < W4.heap.size by omega)).trans xy4
    have xz5 := (b5.cell (p := ⟨w3.heap.size, 1, none⟩) (show w3.heap.size < W4.heap.size by omega)).trans xz4
    clear b5 xa4 xb4 HB4 HSA4 HO_4 xy4 xz4
    go_wp2_with fail
    refine (eqOwn HG_5.out HO_5.out (by omega)).mono ?_
    rintro e w6 ⟨rfl, b6⟩
    have HX_6 := hid (HX_5.out.below b6)
    have HR_6 : Hid (w6.ownsRow w2.heap.size 5 1 (.slice (some ⟨g3, 0, none⟩) n n) n xs3) := hid (World.ownsRow.kept HR_5.out (⟨b6.os, b6.tape, b6.output, b6.size, fun k hk _ => b6.block k hk⟩ : w5.grownBy w6 none) (.inr (by simp [Value.ownBlock])))
    have xa6 := (b6.cell (p := ⟨w.heap.size, 0, none⟩) (show w.heap.size < w5.heap.size by omega)).trans xa5
    have xb6 := (b6.cell (p := ⟨w.heap.size, 1, none⟩) (show w.heap.size < w5.heap.size by omega)).trans xb5
    have HB6 := hid (keepS HB5.out b6)
    have HSA6 := hid (HSA5.out.below b6)
    have zz6 := b6.size
    have HO_6 := hid (HO_5.out.kept b6 (fun q hq => (World.ownsRow.lt HO_5.out q hq).2))
    have HG_6 := hid (HG_5.out.kept b6 (fun q hq => (World.ownsRow.lt HG_5.out q hq).2))
    have xy6 := (b6.cell (p := ⟨w3.heap.size, 0, none⟩) (show w3.heap.size < w5.heap.size by omega)).trans xy5
    have xz6 := (b6.cell (p := ⟨w3.heap.size, 1, none⟩) (show w3.heap.size < w5.heap.size by omega)).trans xz5
    clear b6 HX_5 HR_5 xa5 xb5 HB5 HSA5 HO_5 HG_5 xy5 xz5
    go_wp2_with fail
    have Y : ∀ w', Below w6.heap.size w6 w' → w'.cell? ⟨w3.heap.size, 0, none⟩ = some (.int .i64 k) ∧ w'.cell? ⟨w3.heap.size, 1, none⟩ = some (.slice (some ⟨g3, 0, none⟩) n n) ∧ w'.cell? ⟨w.heap.size, 0, none⟩ = some (.int .i64 k) ∧ w'.cell? ⟨w.heap.size, 1, none⟩ = some (.slice a n c) := fun w' hb =>
      ⟨(hb.cell (p := ⟨w3.heap.size, 0, none⟩) (show w3.heap.size < w6.heap.size by omega)).trans xy6, (hb.cell (p := ⟨w3.heap.size, 1, none⟩) (show w3.heap.size < w6.heap.size by omega)).trans xz6, (hb.cell (p := ⟨w.heap.size, 0, none⟩) (show w.heap.size < w6.heap.size by omega)).trans xa6, (hb.cell (p := ⟨w.heap.size, 1, none⟩) (show w.heap.size < w6.heap.size by omega)).trans xb6⟩
    have HY := hid Y
    have d6 : Below w6.heap.size w6 w6.drew := (Below.refl _ _).drew
    clear Y
    refine wp_region_held_drew (S := fun w' => Below w6.heap.size w6 w' ∧ w'.cell? ⟨w3.heap.size, 0, none⟩ = some (.int .i64 k) ∧ w'.cell? ⟨w3.heap.size, 1, none⟩ = some (.slice (some ⟨g3, 0, none⟩) n n) ∧ w'.cell? ⟨w.heap.size, 0, none⟩ = some (.int .i64 k) ∧ w'.cell? ⟨w.heap.size, 1, none⟩ = some (.slice a n c)) (by kernel_rfl) ⟨d6, HY.out _ d6⟩ (fun hHeld => ?_)
    refine take1 (i := 0) (d := some 41) (v := ?_) (by kernel_rfl) (by kernel_rfl) (by kernel_rfl) (by kernel_rfl) (fun _ _ _ h => h) ?_ hHeld ?_
    rotate_left
    · (intro o ho; simp only [List.getElem?_toArray, List.getElem?_cons_succ, List.getElem?_cons_zero, Option.some.injEq] at ho; subst ho; refine Or.inl ⟨by rfl, ?_⟩; intro w hSw; (try dsimp only at hSw); go_simp; try with_reducible rfl)
    try simp only [Act.put, List.setIfInBounds_toArray, List.set_cons_zero, List.set_cons_succ]
    refine take1 (i := 1) (d := some 42) (v := ?_) (by kernel_rfl) (by kernel_rfl) (by kernel_rfl) (by kernel_rfl) (fun _ _ _ h => h) ?_ hHeld ?_
    rotate_left
    · (intro o ho; simp only [List.getElem?_toArray, List.getElem?_cons_succ, List.getElem?_cons_zero, Option.some.injEq] at ho; subst ho; refine Or.inl ⟨by rfl, ?_⟩; intro w hSw; (try dsimp only at hSw); go_simp; try with_reducible rfl)
    try simp only [Act.put, List.setIfInBounds_toArray, List.set_cons_zero, List.set_cons_succ]
    refine call1 (i := 2) (d := some 43) (by kernel_rfl) (by kernel_rfl) ?_
    intro o ho hod K hK; simp only [List.getElem?_toArray, List.getElem?_cons_succ, List.getElem?_cons_zero, Option.some.injEq] at ho; subst ho
    go_simp
    refine (HTO.out _ (HSA6.out.below hHeld.1)).mono ?_
    rintro e w7 ⟨g7, xs7, rfl, hg7, hg7', s7, o7, b7⟩
    have hB7 := keepS hHeld.1 b7
    refine hK.out _ _ ⟨hB7, HY.out _ hB7⟩ (fun hHeld => ?_)
    clear hK K
    try simp only [Act.put, List.setIfInBounds_toArray, List.set_cons_zero, List.set_cons_succ]
    refine call1 (i := 3) (d := some 44) (by kernel_rfl) (by kernel_rfl) ?_
    intro o ho hod K hK; simp only [List.getElem?_toArray, List.getElem?_cons_succ, List.getElem?_cons_zero, Option.some.injEq] at ho; subst ho
    go_simp
    refine (eqFrameC k _ _ n n n f _ hl (HX_6.out.below hB7) s7).mono ?_
    rintro e w8 ⟨rfl, b8⟩
    have hB8 := keepS hB7 b8
    refine hK.out _ _ ⟨hB8, HY.out _ hB8⟩ (fun hHeld => ?_)
    clear hK K
    try simp only [Act.put, List.setIfInBounds_toArray, List.set_cons_zero, List.set_cons_succ]
    refine take1 (i := 4) (d := some 45) (v := ?_) (by kernel_rfl) (by kernel_rfl) (by kernel_rfl) (by kernel_rfl) (fun _ _ _ h => h) ?_ hHeld ?_
    rotate_left
    · (intro o ho; simp only [List.getElem?_toArray, List.getElem?_cons_succ, List.getElem?_cons_zero, Option.some.injEq] at ho; subst ho; refine Or.inl ⟨by rfl, ?_⟩; intro w hSw; (try dsimp only at hSw); go_simp; try with_reducible rfl)
    try simp only [Act.put, List.setIfInBounds_toArray, List.set_cons_zero, List.set_cons_succ]
    refine wpAnyH_done (by kernel_rfl) ?_ _
    clear hHeld hB7 b7 s7 o7 b8 d6 HY hg7 hg7'
    have HX_8 := hid (HX_6.out.below hB8)
    have HR_8 : Hid (w8.ownsRow w2.heap.size 5 1 (.slice (some ⟨g3, 0, none⟩) n n) n xs3) := hid (World.ownsRow.kept HR_6.out (⟨hB8.os, hB8.tape, hB8.output, hB8.size, fun k hk _ => hB8.block k hk⟩ : w6.grownBy w8 none) (.inr (by simp [Value.ownBlock])))
    have xa8 := (hB8.cell (p := ⟨w.heap.size, 0, none⟩) (show w.heap.size < w6.heap.size by omega)).trans xa6
    have xb8 := (hB8.cell (p := ⟨w.heap.size, 1, none⟩) (show w.heap.size < w6.heap.size by omega)).trans xb6
    have HB8 := hid (keepS HB6.out hB8)
    have HSA8 := hid (HSA6.out.below hB8)
    have zz8 := hB8.size
    have HO_8 := hid (HO_6.out.kept hB8 (fun q hq => (World.ownsRow.lt HO_6.out q hq).2))
    have HG_8 := hid (HG_6.out.kept hB8 (fun q hq => (World.ownsRow.lt HG_6.out q hq).2))
    have xy8 := (hB8.cell (p := ⟨w3.heap.size, 0, none⟩) (show w3.heap.size < w6.heap.size by omega)).trans xy6
    have xz8 := (hB8.cell (p := ⟨w3.heap.size, 1, none⟩) (show w3.heap.size < w6.heap.size by omega)).trans xz6
    clear hB8 HX_6 HR_6 xa6 xb6 HB6 HSA6 HO_6 HG_6 xy6 xz6
    go_wp2_with fail
    refine (markFrameC w2.heap.size g3 n k xs3 w8 hl (by omega) HR_8.out).mono ?_
    rintro e w9 ⟨rfl, g9⟩
    have xa9 := g9.cell xa8 (fun e => by have e2 : w.heap.size = g3 := Option.some.inj e; omega)
    have xb9 := g9.cell xb8 (fun e => by have e2 : w.heap.size = g3 := Option.some.inj e; omega)
    have HB9 := hid (HB8.out.grown g9 HB8.out.size (fun q hq => by injection hq with hq; omega))
    have HO_9 := hid (HO_8.out.gr g9 (fun q hq e => by injection e with e; have := HV2.out q hq; omega))
    have HG_9 := hid (HG_8.out.gr g9 (fun q hq e => by injection e with e; have := HV5.out q hq; omega))
    have zz9 := g9.size
    clear g9 xa8 xb8 xy8 xz8 HB8 HO_8 HG_8 HX_8 HR_8 HSA8
    go_wp2_with fail
    refine (eqOwn HG_9.out HO_9.out (by omega)).mono ?_
    rintro e wA ⟨rfl, bA⟩
    have HSA9 := hid (HH.out.below HB9.out)
    have xaA := (bA.cell (p := ⟨w.heap.size, 0, none⟩) (show w.heap.size < w9.heap.size by omega)).trans xa9
    have xbA := (bA.cell (p := ⟨w.heap.size, 1, none⟩) (show w.heap.size < w9.heap.size by omega)).trans xb9
    have HBA := hid (keepS HB9.out bA)
    have HSAA := hid (HSA9.out.below bA)
    have zzA := bA.size
    have HO_A := hid (HO_9.out.kept bA (fun q hq => (World.ownsRow.lt HO_9.out q hq).2))
    have HG_A := hid (HG_9.out.kept bA (fun q hq => (World.ownsRow.lt HG_9.out q hq).2))
    clear bA xa9 xb9 HB9 HSA9 HO_9 HG_9
    go_wp2_with fail
    refine (markOwn HG_A.out (by omega) 1 (by omega)).mono ?_
    rintro e wB ⟨rfl, bB, zB, aB, cB, eB, sB⟩
    have xaB := (bB.cell (p := ⟨w.heap.size, 0, none⟩) (show w.heap.size < W4.heap.size by omega)).trans xaA
    have xbB := (bB.cell (p := ⟨w.heap.size, 1, none⟩) (show w.heap.size < W4.heap.size by omega)).trans xbA
    have HO_B := hid (HO_A.out.kept bB (fun q hq => by have := HV2.out q hq; omega))
    have HBB := hid (HBA.out.trans (bB.mono (by omega)))
    have HSB := hid sB
    subst eB
    clear bB sB xaA xbA HO_A HG_A HBA HSAA
    go_wp2_with fail
    refine (heldB aB zs.length cB 1 wB (by omega) (by omega) HSB.out).mono ?_
    rintro e wB' ⟨rfl, rfl⟩
    have HSA_B := hid (HH.out.below HBB.out)
    go_wp2_with fail
    refine (HTO.out _ HSA_B.out).mono ?_
    rintro e wC ⟨gC, xsC, rfl, hgC, hgC', sC, oC, bC⟩
    have HTC := hid sC
    have HO_C := hid (HO_B.out.kept bC (fun q hq => (World.ownsRow.lt HO_B.out q hq).2))
    have HBC := hid (keepS HBB.out bC)
    clear sC oC bC HO_B HBB xaB xbB HSB HSA_B
    go_wp2_with fail
    refine (HIM.out gC wC HTC.out).mono ?_
    rintro e wD ⟨vD, rfl, oD, bD⟩
    have HG_D := hid oD
    have HO_D := hid (HO_C.out.kept bD (fun q hq => (World.ownsRow.lt HO_C.out q hq).2))
    have HBD := hid (keepS HBC.out bD)
    clear oD bD HO_C HBC HTC
    go_wp2_with fail
    refine (eqOwn HG_D.out HO_D.out (by omega)).mono ?_
    rintro e wE ⟨rfl, bE⟩
    have HBE := hid (keepS HBD.out bE)
    clear bE HBD
    go_wp2_with fail
    go_ret
    exact ⟨rfl, HBE.out⟩
  · have HL : Hid (szL n = -1) := hid (if_neg hl)
    rw [HL.out] at HSZ
    go_enter Try.func3, Try.ntmps3
    go_wp2_with fail
    try rw [hW0]
    clear hW0
    refine HSZ.out.mono ?_
    rintro e wS ⟨rfl, bS⟩
    have HBS := hid (keepS HB0.out bS)
    clear bS HSZ
    go_wp2_with fail
    go_ret
    exact ⟨rfl, HBS.out⟩

theorem own : ownKnob Try.prog.godebug = none := by kernel_rfl
theorem laidOut : laidOutB Try.prog = true := by kernel_rfl

set_option maxRecDepth 100000 in
theorem lifted (os : Os) (started : os.Started) (H : Type) (enc : TypeId × Value → H) :
    ReturnsInHanded {} Try.checked os 3 .any (Rows.fnExactPutFrameSpec.pre6 enc Try.prog Try.f3 Rows.fnExactPutFrameRow.domain false) (Rows.fnExactPutFrameSpec.post enc Try.prog Try.f3 false true false false) := by
  refine returnsInHanded_of_change (C := Try.checked) own started (by kernel_rfl) Try.func3
    (ChangeSpec.witness6 (enc := enc) (C := Try.checked) false ⟨#[], #[.agg #[.int .i64 0, .slice none 0 0]], []⟩ 8 (by kernel_rfl) (by kernel_rfl) (by kernel_rfl) (by kernel_rfl)) ?_
  intro W base args ds gs before hval0 hW hcnd _
  have hval : ∀ (j : Nat) t v, Try.f3.params[j]? = some t → args[j]? = some v → Value.okWide Try.prog W .any base t v := hval0
  have hW' := hW
  obtain ⟨p, q, hA0, hV, rfl, hfz, hnd⟩ := hW
  have hA : DataW.TrodAll enc Try.prog W 0 (fun _ => true) true Try.f3.params.toList args.toList ds p := hA0
  rw [Try.params3] at hA hval
  obtain ⟨v0, vs0, d0, ds0, p0, q0, hargs, rfl, rfl, h0, r0⟩ := trodAll_cons hA
  obtain ⟨rfl, rfl, rfl⟩ := trodAll_nil r0
  obtain rfl : args = #[v0] := by cases args; simp_all
  obtain ⟨rfl, rfl⟩ := trodVars_none hV
  have k0 := h0
  have lt0 : ∀ x ∈ p0, x.block < W.heap.size := by obtain ⟨m, hm⟩ := k0; exact DataW.trod_lt m _ _ _ hm
  obtain ⟨k1, a1, n1, c1, f1, rfl, wk1, hl1, s1, hb1⟩ := openFrame (hval 0 24 v0 rfl rfl) h0
  clear hA0 hval0
  refine (walk W k1 a1 n1 c1 f1 wk1 hl1 s1 hb1).mono fun e W' ⟨he, bel⟩ => ?_
  subst he
  exact ⟨_, rfl, _, _, _, [], _, [], hW', trodAll_mk1 (shut_bool Try.underlying4 _), (trodAll_cons_mk (Below.trod laidOut (by kernel_rfl) (of_decide_eq_true (by kernel_rfl)) k0 bel lt0) trodAll_mk0), rfl, bel.frame _, fun h => by cases h⟩

theorem over : Rows.fnExactPutFrameRow.holds Try.pinned (OpenSpec.ofChange Rows.fnExactPutFrameSpec) :=
  OpenClaim.holds_of_wide 3 Try.f3 rfl rfl rfl rfl rfl rfl rfl ⟨rfl, rfl, rfl, rfl, rfl⟩ rfl rfl rfl rfl rfl (by kernel_rfl) Try.func3 (by kernel_rfl)
    (of_decide_eq_true (by kernel_rfl)) (by unfold Func.isWrapper; first | (rw [if_pos (by decide +kernel)]; kernel_rfl) | (rw [if_neg (by decide +kernel)]; exact ⟨rfl, rfl⟩))
    (fun os started H enc _ => lifted os started H enc)
end Go.Proofs.Ytbimcammjohaoac.fnExactPutFrame

namespace Go.Proofs.Ytbimcammjohaoac
theorem putFrameHolds : Rows.FnExactPutFrameSaid := fnExactPutFrame.over
#print axioms putFrameHolds
end Go.Proofs.Ytbimcammjohaoac
