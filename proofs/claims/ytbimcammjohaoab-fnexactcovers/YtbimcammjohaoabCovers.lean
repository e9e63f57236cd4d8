import Derived.Test.YtbimcammjohaoabCov2
import Derived.Test.YtbimcammjohaoabOpen
import Derived.Test.YtbimcammjohaoabEq
namespace Go.Proofs.Ytbimcammjohaoab.fnExactCovers
open Go.ChangeShapes Go.WideShapes Go.ChangeAt Go.RowKit Go.Maps
set_option linter.unusedVariables false
set_option linter.unusedSimpArgs false

set_option maxRecDepth 100000 in
set_option maxHeartbeats 2000000 in
theorem walk (w : World) (a : Option Addr) (n c : Nat) (R F T : Nat → Int) (hn : n ≤ 9223372036854775807) (h : RSeg w a n R F T) (iR : I64 R) (iF : I64 F) (iT : I64 T) (a' : Option Addr) (n' c' : Nat) (R' F' T' : Nat → Int) (hn' : n' ≤ 9223372036854775807) (h' : RSeg w a' n' R' F' T') (iR' : I64 R') (iF' : I64 F') (iT' : I64 T') :
    Calls Try.prog 4 #[.agg #[.slice a n c], .agg #[.slice a' n' c']] w fun e w' => e = .returned (.bool true) ∧ Below w.heap.size w w' := by
  obtain ⟨W0, hW0⟩ : ∃ W0, (w.alloc (.cells #[.slice a n c] 24)).alloc (.cells #[.slice a' n' c'] 24) = W0 := ⟨_, rfl⟩
  have bW : Below w.heap.size w W0 := by rw [← hW0]; exact below2 _ _ _
  have xa : W0.cell? ⟨w.heap.size, 0, none⟩ = some (.slice a n c) := by rw [← hW0]; simp
  have xb : W0.cell? ⟨w.heap.size + 1, 0, none⟩ = some (.slice a' n' c') := by rw [← hW0]; simp
  have zW : W0.heap.size = w.heap.size + 2 := by rw [← hW0]; simp
  go_enter Try.func4, Try.ntmps4
  go_wp2_with fail
  try rw [hW0]
  clear hW0
  refine (szContext a n c 1048576 _ hn (by omega) (by omega)).mono ?_
  rintro e w1 ⟨rfl, b1⟩
  have z1 := b1.size
  have xa1 := (b1.cell (p := ⟨w.heap.size, 0, none⟩) (show w.heap.size < W0.heap.size by omega)).trans xa
  have xb1 := (b1.cell (p := ⟨w.heap.size + 1, 0, none⟩) (show w.heap.size + 1 < W0.heap.size by omega)).trans xb
  have B1 := keepS bW b1
  clear b1 xa xb bW
  by_cases hl : n ≤ 1048576
  case neg =>
    rw [show szLeft 1048576 n = -1 from if_pos (by omega)]
    have HB := hid B1
    clear B1
    go_wp2_with fail
    go_ret
    exact ⟨rfl, HB.out⟩
  rw [show szLeft 1048576 n = 1048576 - n from if_neg (by omega)]
  go_wp2_with fail
  refine (szContext a' n' c' (1048576 - n) _ hn' (by omega) (by omega)).mono ?_
  rintro e w2 ⟨rfl, b2⟩
  have z2 := b2.size
  have xa2 := (b2.cell (p := ⟨w.heap.size, 0, none⟩) (show w.heap.size < w1.heap.size by omega)).trans xa1
  have xb2 := (b2.cell (p := ⟨w.heap.size + 1, 0, none⟩) (show w.heap.size + 1 < w1.heap.size by omega)).trans xb1
  have B2 := keepS B1 b2
  clear b2 xa1 xb1 B1
  by_cases hl' : (n' : Int) ≤ 1048576 - n
  case neg =>
    rw [show szLeft (1048576 - n) n' = -1 from if_pos (by omega)]
    have HB := hid B2
    clear B2
    go_wp2_with fail
    go_ret
    exact ⟨rfl, HB.out⟩
  rw [show szLeft (1048576 - n) n' = 1048576 - n - n' from if_neg (by omega)]
  have hl2 : n' ≤ 1048576 := by omega
  have HB := hid B2
  have HH := hid h
  have HH' := hid h'
  have zc : w.heap.size < w2.heap.size := by omega
  have zd : w.heap.size + 1 < w2.heap.size := by omega
  clear B2 h h'
  go_wp2_with fail
  refine wp_region_held_drew (S := fun w' => Below w2.heap.size w2 w' ∧ w'.cell? ⟨w.heap.size, 0, none⟩ = some (.slice a n c) ∧ w'.cell? ⟨w.heap.size + 1, 0, none⟩ = some (.slice a' n' c')) (by kernel_rfl) ⟨(Below.refl _ _).drew, xa2, xb2⟩ (fun hHeld => ?_)
  refine take1 (i := 0) (d := some 20) (v := ?_) (by kernel_rfl) (by kernel_rfl) (by kernel_rfl) (by kernel_rfl) (fun _ _ _ h => h) ?_ hHeld ?_
  rotate_left
  · (intro o ho; simp only [List.getElem?_toArray, List.getElem?_cons_succ, List.getElem?_cons_zero, Option.some.injEq] at ho; subst ho; refine Or.inl ⟨by rfl, ?_⟩; intro w hSw; (try dsimp only at hSw); go_simp; try with_reducible rfl)
  try simp only [Act.put, List.setIfInBounds_toArray, List.set_cons_zero, List.set_cons_succ]
  refine take1 (i := 2) (d := some 22) (v := ?_) (by kernel_rfl) (by kernel_rfl) (by kernel_rfl) (by kernel_rfl) (fun _ _ _ h => h) ?_ hHeld ?_
  rotate_left
  · (intro o ho; simp only [List.getElem?_toArray, List.getElem?_cons_succ, List.getElem?_cons_zero, Option.some.injEq] at ho; subst ho; refine Or.inl ⟨by rfl, ?_⟩; intro w hSw; (try dsimp only at hSw); go_simp; try with_reducible rfl)
  try simp only [Act.put, List.setIfInBounds_toArray, List.set_cons_zero, List.set_cons_succ]
  refine call1 (i := 1) (d := some 21) (by kernel_rfl) (by kernel_rfl) ?_
  intro o ho hod K hK; simp only [List.getElem?_toArray, List.getElem?_cons_succ, List.getElem?_cons_zero, Option.some.injEq] at ho; subst ho
  go_simp
  refine (toContext a n c R F T _ hl (HH.out.below (keepS HB.out hHeld.1))).mono ?_
  rintro e w3 ⟨g3, hg3, hg3', rfl, s3, b3⟩
  have hB := keepS hHeld.1 b3
  refine hK.out _ _ ⟨hB, (hB.cell (p := ⟨w.heap.size, 0, none⟩) zc).trans xa2, (hB.cell (p := ⟨w.heap.size + 1, 0, none⟩) zd).trans xb2⟩ (fun hHeld => ?_)
  clear hK K
  try simp only [Act.put, List.setIfInBounds_toArray, List.set_cons_zero, List.set_cons_succ]
  refine call1 (i := 3) (d := some 23) (by kernel_rfl) (by kernel_rfl) ?_
  intro o ho hod K hK; simp only [List.getElem?_toArray, List.getElem?_cons_succ, List.getElem?_cons_zero, Option.some.injEq] at ho; subst ho
  go_simp
  refine (toContext a' n' c' R' F' T' _ hl2 (HH'.out.below (keepS HB.out hB))).mono ?_
  rintro e w4 ⟨g4, hg4, hg4', rfl, s4, b4⟩
  have hB4 := keepS hB b4
  refine hK.out _ _ ⟨hB4, (hB4.cell (p := ⟨w.heap.size, 0, none⟩) zc).trans xa2, (hB4.cell (p := ⟨w.heap.size + 1, 0, none⟩) zd).trans xb2⟩ (fun hHeld => ?_)
  clear hK K
  try simp only [Act.put, List.setIfInBounds_toArray, List.set_cons_zero, List.set_cons_succ]
  refine call1 (i := 4) (d := some 24) (by kernel_rfl) (by kernel_rfl) ?_
  intro o ho hod K hK; simp only [List.getElem?_toArray, List.getElem?_cons_succ, List.getElem?_cons_zero, Option.some.injEq] at ho; subst ho
  go_simp
  refine (specCov _ n n R F T _ n' n' R' F' T' _ hl hl2 (s3.below b4) s4).mono ?_
  rintro e w5 ⟨rfl, b5⟩
  have hB5 := keepS hB4 b5
  refine hK.out _ _ ⟨hB5, (hB5.cell (p := ⟨w.heap.size, 0, none⟩) zc).trans xa2, (hB5.cell (p := ⟨w.heap.size + 1, 0, none⟩) zd).trans xb2⟩ (fun hHeld => ?_)
  clear hK K
  try simp only [Act.put, List.setIfInBounds_toArray, List.set_cons_zero, List.set_cons_succ]
  refine take1 (i := 5) (d := some 6) (v := ?_) (by kernel_rfl) (by kernel_rfl) (by kernel_rfl) (by kernel_rfl) (fun _ _ _ h => h) ?_ hHeld ?_
  rotate_left
  · (intro o ho; simp only [List.getElem?_toArray, List.getElem?_cons_succ, List.getElem?_cons_zero, Option.some.injEq] at ho; subst ho; refine Or.inl ⟨by rfl, ?_⟩; intro w hSw; (try dsimp only at hSw); go_simp; try with_reducible rfl)
  try simp only [Act.put, List.setIfInBounds_toArray, List.set_cons_zero, List.set_cons_succ]
  refine wpAnyH_done (by kernel_rfl) ?_ _
  have B5 := keepS HB.out hB5
  have z5 := hB5.size
  have xa5 := hHeld.2.1
  have xb5 := hHeld.2.2
  clear hHeld hB hB4 hB5 b3 b4 b5 s3 s4 xa2 xb2 HB
  generalize hBB : (covB R F T R' F' T' n n' && (ctxB R F T n && ctxB R' F' T' n')) = BB
  have HBB := hid hBB
  clear hBB
  go_wp2_with fail
  refine (toContext a n c R F T _ hl (HH.out.below B5)).mono ?_
  rintro e w6 ⟨g6, hg6, hg6', rfl, s6, b6⟩
  have z6 := b6.size
  have xa6 := (b6.cell (p := ⟨w.heap.size, 0, none⟩) (show w.heap.size < w5.heap.size by omega)).trans xa5
  have xb6 := (b6.cell (p := ⟨w.heap.size + 1, 0, none⟩) (show w.heap.size + 1 < w5.heap.size by omega)).trans xb5
  have B6 := keepS B5 b6
  obtain ⟨W7, hW7⟩ : ∃ W7, w6.alloc (.cells #[.slice (some ⟨g6, 0, none⟩) n n] 29) = W7 := ⟨_, rfl⟩
  have b7 : Below w6.heap.size w6 W7 := by rw [← hW7]; exact (Below.refl _ _).alloc (Nat.le_refl _) _
  have z7 : W7.heap.size = w6.heap.size + 1 := by rw [← hW7]; simp
  have y7 : W7.cell? ⟨w6.heap.size, 0, none⟩ = some (.slice (some ⟨g6, 0, none⟩) n n) := by rw [← hW7]; simp
  have xa7 := (b7.cell (p := ⟨w.heap.size, 0, none⟩) (show w.heap.size < w6.heap.size by omega)).trans xa6
  have xb7 := (b7.cell (p := ⟨w.heap.size + 1, 0, none⟩) (show w.heap.size + 1 < w6.heap.size by omega)).trans xb6
  have s7 := s6.below b7
  have B7 := keepS B6 b7
  clear xa5 xa6 xb5 xb6 B5 B6 s6 b6 b7
  go_wp2_with fail
  try rw [hW7]
  refine (toContext a' n' c' R' F' T' _ hl2 (HH'.out.below B7)).mono ?_
  rintro e w8 ⟨g8, hg8, hg8', rfl, s8, b8⟩
  clear hW7
  have z8 := b8.size
  have xa8 := (b8.cell (p := ⟨w.heap.size, 0, none⟩) (show w.heap.size < W7.heap.size by omega)).trans xa7
  have xb8 := (b8.cell (p := ⟨w.heap.size + 1, 0, none⟩) (show w.heap.size + 1 < W7.heap.size by omega)).trans xb7
  have y8 := (b8.cell (p := ⟨w6.heap.size, 0, none⟩) (show w6.heap.size < W7.heap.size by omega)).trans y7
  have s78 := s7.below b8
  have B8 := keepS B7 b8
  obtain ⟨W9, hW9⟩ : ∃ W9, w8.alloc (.cells #[.slice (some ⟨g8, 0, none⟩) n' n'] 29) = W9 := ⟨_, rfl⟩
  have b9 : Below w8.heap.size w8 W9 := by rw [← hW9]; exact (Below.refl _ _).alloc (Nat.le_refl _) _
  have z9 : W9.heap.size = w8.heap.size + 1 := by rw [← hW9]; simp
  have v9 : W9.cell? ⟨w8.heap.size, 0, none⟩ = some (.slice (some ⟨g8, 0, none⟩) n' n') := by rw [← hW9]; simp
  have xa9 := (b9.cell (p := ⟨w.heap.size, 0, none⟩) (show w.heap.size < w8.heap.size by omega)).trans xa8
  have xb9 := (b9.cell (p := ⟨w.heap.size + 1, 0, none⟩) (show w.heap.size + 1 < w8.heap.size by omega)).trans xb8
  have y9 := (b9.cell (p := ⟨w6.heap.size, 0, none⟩) (show w6.heap.size < w8.heap.size by omega)).trans y8
  have s79 := s78.below b9
  have s89 := s8.below b9
  have B9 := keepS B8 b9
  clear xa7 xa8 xb7 xb8 y7 y8 s7 s78 s8 b8 b9 B7 B8
  go_wp2_with fail
  try rw [hW9]
  refine (implCov _ n n R F T _ n' n' R' F' T' _ hl hl2 s79 s89).mono ?_
  rintro e w10 ⟨rfl, b10⟩
  rw [HBB.out]
  clear hW9
  have z10 := b10.size
  have pa := (b10.cell (p := ⟨w.heap.size, 0, none⟩) (show w.heap.size < W9.heap.size by omega)).trans xa9
  have xb10 := (b10.cell (p := ⟨w.heap.size + 1, 0, none⟩) (show w.heap.size + 1 < W9.heap.size by omega)).trans xb9
  have px := (b10.cell (p := ⟨w6.heap.size, 0, none⟩) (show w6.heap.size < W9.heap.size by omega)).trans y9
  have v10 := (b10.cell (p := ⟨w8.heap.size, 0, none⟩) (show w8.heap.size < W9.heap.size by omega)).trans v9
  have HS1 := hid (s79.below b10)
  have HS2 := hid (s89.below b10)
  have HB10 := hid (keepS B9 b10)
  have pza : w.heap.size < w10.heap.size := by omega
  have pzx : w6.heap.size < w10.heap.size := by omega
  have zb10 : w.heap.size + 1 < w10.heap.size := by omega
  have zv10 : w8.heap.size < w10.heap.size := by omega
  clear xa9 xb9 y9 v9 s79 s89 b10 B9
  go_wp2_with fail
  refine wp_region_held_drew (S := fun w' => Below w10.heap.size w10 w' ∧ w'.cell? ⟨w6.heap.size, 0, none⟩ = some (.slice (some ⟨g6, 0, none⟩) n n) ∧ w'.cell? ⟨w.heap.size, 0, none⟩ = some (.slice a n c)) (by kernel_rfl) ⟨(Below.refl _ _).drew, px, pa⟩ (fun hHeld => ?_)
  refine take1 (i := 0) (d := some 35) (v := ?_) (by kernel_rfl) (by kernel_rfl) (by kernel_rfl) (by kernel_rfl) (fun _ _ _ h => h) ?_ hHeld ?_
  rotate_left
  · (intro o ho; simp only [List.getElem?_toArray, List.getElem?_cons_succ, List.getElem?_cons_zero, Option.some.injEq] at ho; subst ho; refine Or.inl ⟨by rfl, ?_⟩; intro w hSw; (try dsimp only at hSw); go_simp; try with_reducible rfl)
  try simp only [Act.put, List.setIfInBounds_toArray, List.set_cons_zero, List.set_cons_succ]
  refine take1 (i := 1) (d := some 36) (v := ?_) (by kernel_rfl) (by kernel_rfl) (by kernel_rfl) (by kernel_rfl) (fun _ _ _ h => h) ?_ hHeld ?_
  rotate_left
  · (intro o ho; simp only [List.getElem?_toArray, List.getElem?_cons_succ, List.getElem?_cons_zero, Option.some.injEq] at ho; subst ho; refine Or.inl ⟨by rfl, ?_⟩; intro w hSw; (try dsimp only at hSw); go_simp; try with_reducible rfl)
  try simp only [Act.put, List.setIfInBounds_toArray, List.set_cons_zero, List.set_cons_succ]
  refine call1 (i := 2) (d := some 37) (by kernel_rfl) (by kernel_rfl) ?_
  intro o ho hod K hK; simp only [List.getElem?_toArray, List.getElem?_cons_succ, List.getElem?_cons_zero, Option.some.injEq] at ho; subst ho
  go_simp
  refine (toContext _ _ _ _ _ _ _ hl (HH.out.below (keepS HB10.out hHeld.1))).mono ?_
  rintro e wa ⟨ga, hga, hga', rfl, sa, ba⟩
  have hB := keepS hHeld.1 ba
  refine hK.out _ _ ⟨hB, (hB.cell (p := ⟨w6.heap.size, 0, none⟩) pzx).trans px, (hB.cell (p := ⟨w.heap.size, 0, none⟩) pza).trans pa⟩ (fun hHeld => ?_)
  clear hK K
  try simp only [Act.put, List.setIfInBounds_toArray, List.set_cons_zero, List.set_cons_succ]
  refine call1 (i := 3) (d := some 38) (by kernel_rfl) (by kernel_rfl) ?_
  intro o ho hod K hK; simp only [List.getElem?_toArray, List.getElem?_cons_succ, List.getElem?_cons_zero, Option.some.injEq] at ho; subst ho
  go_simp
  refine (eqContext _ _ _ _ _ _ _ _ _ hl (HS1.out.below hB) sa).mono ?_
  rintro e wb ⟨rfl, bb⟩
  have hB8 := keepS hB bb
  refine hK.out _ _ ⟨hB8, (hB8.cell (p := ⟨w6.heap.size, 0, none⟩) pzx).trans px, (hB8.cell (p := ⟨w.heap.size, 0, none⟩) pza).trans pa⟩ (fun hHeld => ?_)
  clear hK K
  try simp only [Act.put, List.setIfInBounds_toArray, List.set_cons_zero, List.set_cons_succ]
  refine take1 (i := 4) (d := some 39) (v := ?_) (by kernel_rfl) (by kernel_rfl) (by kernel_rfl) (by kernel_rfl) (fun _ _ _ h => h) ?_ hHeld ?_
  rotate_left
  · (intro o ho; simp only [List.getElem?_toArray, List.getElem?_cons_succ, List.getElem?_cons_zero, Option.some.injEq] at ho; subst ho; refine Or.inl ⟨by rfl, ?_⟩; intro w hSw; (try dsimp only at hSw); go_simp; try with_reducible rfl)
  try simp only [Act.put, List.setIfInBounds_toArray, List.set_cons_zero, List.set_cons_succ]
  refine wpAnyH_done (by kernel_rfl) ?_ _
  have qa := (hB8.cell (p := ⟨w.heap.size + 1, 0, none⟩) zb10).trans xb10
  have qx := (hB8.cell (p := ⟨w8.heap.size, 0, none⟩) zv10).trans v10
  have zz := hB8.size
  have HS3 := hid (HS2.out.below hB8)
  have HB11 := hid (keepS HB10.out hB8)
  have qza : w.heap.size + 1 < wb.heap.size := by omega
  have qzx : w8.heap.size < wb.heap.size := by omega
  clear hHeld hB hB8 ba bb sa pa px xb10 v10 hga hga'
  obtain ⟨wc, hwc⟩ : ∃ wc, wb = wc := ⟨_, rfl⟩
  subst hwc
  go_wp2_with fail
  refine wp_region_held_drew (S := fun w' => Below wb.heap.size wb w' ∧ w'.cell? ⟨w8.heap.size, 0, none⟩ = some (.slice (some ⟨g8, 0, none⟩) n' n') ∧ w'.cell? ⟨w.heap.size + 1, 0, none⟩ = some (.slice a' n' c')) (by kernel_rfl) ⟨(Below.refl _ _).drew, qx, qa⟩ (fun hHeld => ?_)
  refine take1 (i := 0) (d := some 40) (v := ?_) (by kernel_rfl) (by kernel_rfl) (by kernel_rfl) (by kernel_rfl) (fun _ _ _ h => h) ?_ hHeld ?_
  rotate_left
  · (intro o ho; simp only [List.getElem?_toArray, List.getElem?_cons_succ, List.getElem?_cons_zero, Option.some.injEq] at ho; subst ho; refine Or.inl ⟨by rfl, ?_⟩; intro w hSw; (try dsimp only at hSw); go_simp; try with_reducible rfl)
  try simp only [Act.put, List.setIfInBounds_toArray, List.set_cons_zero, List.set_cons_succ]
  refine take1 (i := 1) (d := some 41) (v := ?_) (by kernel_rfl) (by kernel_rfl) (by kernel_rfl) (by kernel_rfl) (fun _ _ _ h => h) ?_ hHeld ?_
  rotate_left
  · (intro o ho; simp only [List.getElem?_toArray, List.getElem?_cons_succ, List.getElem?_cons_zero, Option.some.injEq] at ho; subst ho; refine Or.inl ⟨by rfl, ?_⟩; intro w hSw; (try dsimp only at hSw); go_simp; try with_reducible rfl)
  try simp only [Act.put, List.setIfInBounds_toArray, List.set_cons_zero, List.set_cons_succ]
  refine call1 (i := 2) (d := some 42) (by kernel_rfl) (by kernel_rfl) ?_
  intro o ho hod K hK; simp only [List.getElem?_toArray, List.getElem?_cons_succ, List.getElem?_cons_zero, Option.some.injEq] at ho; subst ho
  go_simp
  refine (toContext _ _ _ _ _ _ _ hl2 (HH'.out.below (keepS HB11.out hHeld.1))).mono ?_
  rintro e we ⟨ge, hge, hge', rfl, sa, ba⟩
  have hB := keepS hHeld.1 ba
  refine hK.out _ _ ⟨hB, (hB.cell (p := ⟨w8.heap.size, 0, none⟩) qzx).trans qx, (hB.cell (p := ⟨w.heap.size + 1, 0, none⟩) qza).trans qa⟩ (fun hHeld => ?_)
  clear hK K
  try simp only [Act.put, List.setIfInBounds_toArray, List.set_cons_zero, List.set_cons_succ]
  refine call1 (i := 3) (d := some 43) (by kernel_rfl) (by kernel_rfl) ?_
  intro o ho hod K hK; simp only [List.getElem?_toArray, List.getElem?_cons_succ, List.getElem?_cons_zero, Option.some.injEq] at ho; subst ho
  go_simp
  refine (eqContext _ _ _ _ _ _ _ _ _ hl2 (HS3.out.below hB) sa).mono ?_
  rintro e wf ⟨rfl, bb⟩
  have hB8 := keepS hB bb
  refine hK.out _ _ ⟨hB8, (hB8.cell (p := ⟨w8.heap.size, 0, none⟩) qzx).trans qx, (hB8.cell (p := ⟨w.heap.size + 1, 0, none⟩) qza).trans qa⟩ (fun hHeld => ?_)
  clear hK K
  try simp only [Act.put, List.setIfInBounds_toArray, List.set_cons_zero, List.set_cons_succ]
  refine take1 (i := 4) (d := some 44) (v := ?_) (by kernel_rfl) (by kernel_rfl) (by kernel_rfl) (by kernel_rfl) (fun _ _ _ h => h) ?_ hHeld ?_
  rotate_left
  · (intro o ho; simp only [List.getElem?_toArray, List.getElem?_cons_succ, List.getElem?_cons_zero, Option.some.injEq] at ho; subst ho; refine Or.inl ⟨by rfl, ?_⟩; intro w hSw; (try dsimp only at hSw); go_simp; try with_reducible rfl)
  try simp only [Act.put, List.setIfInBounds_toArray, List.set_cons_zero, List.set_cons_succ]
  refine wpAnyH_done (by kernel_rfl) ?_ _
  have HZ := hid (keepS HB11.out hB8)
  clear hHeld hB hB8 ba bb sa
  go_wp2_with fail
  go_ret
  exact ⟨rfl, HZ.out⟩

theorem own : ownKnob Try.prog.godebug = none := by kernel_rfl
theorem laidOut : laidOutB Try.prog = true := by kernel_rfl

set_option maxRecDepth 100000 in
theorem lifted (os : Os) (started : os.Started) (H : Type) (enc : TypeId × Value → H) :
    ReturnsInHanded {} Try.checked os 4 .any (Rows.fnExactCoversSpec.pre6 enc Try.prog Try.f4 Rows.fnExactCoversRow.domain false) (Rows.fnExactCoversSpec.post enc Try.prog Try.f4 false true false false) := by
  refine returnsInHanded_of_change (C := Try.checked) own started (by kernel_rfl) Try.func4
    (ChangeSpec.witness6 (enc := enc) (C := Try.checked) false ⟨#[], #[.agg #[.slice none 0 0], .agg #[.slice none 0 0]], []⟩ 8 (by kernel_rfl) (by kernel_rfl) (by kernel_rfl) (by kernel_rfl)) ?_
  intro W base args ds gs before hval0 hW hcnd _
  have hval : ∀ (j : Nat) t v, Try.f4.params[j]? = some t → args[j]? = some v → Value.okWide Try.prog W .any base t v := hval0
  have hW' := hW
  obtain ⟨p, q, hA0, hV, rfl, hfz, hnd⟩ := hW
  have hA : DataW.TrodAll enc Try.prog W 0 (fun _ => true) true Try.f4.params.toList args.toList ds p := hA0
  rw [Try.params4] at hA hval
  obtain ⟨v0, vs0, d0, ds0, p0, q0, hargs, rfl, rfl, h0, r0⟩ := trodAll_cons hA
  obtain ⟨v1, vs1, d1, ds1, p1, q1, rfl, rfl, rfl, h1, r1⟩ := trodAll_cons r0
  obtain ⟨rfl, rfl, rfl⟩ := trodAll_nil r1
  obtain rfl : args = #[v0, v1] := by cases args; simp_all
  obtain ⟨rfl, rfl⟩ := trodVars_none hV
  have k0 := h0
  have lt0 : ∀ x ∈ p0, x.block < W.heap.size := by obtain ⟨m, hm⟩ := k0; exact DataW.trod_lt m _ _ _ hm
  obtain ⟨a0, n0, c0, R0, F0, T0, rfl, hl0, s0, iR0, iF0, iT0⟩ := openCtx (hval 0 24 v0 rfl rfl) h0
  have k1 := h1
  have lt1 : ∀ x ∈ p1, x.block < W.heap.size := by obtain ⟨m, hm⟩ := k1; exact DataW.trod_lt m _ _ _ hm
  obtain ⟨a1, n1, c1, R1, F1, T1, rfl, hl1, s1, iR1, iF1, iT1⟩ := openCtx (hval 1 24 v1 rfl rfl) h1
  clear hA0 hval0
  refine (walk W a0 n0 c0 R0 F0 T0 hl0 (s0) iR0 iF0 iT0 a1 n1 c1 R1 F1 T1 hl1 (s1) iR1 iF1 iT1).mono fun e W' ⟨he, bel⟩ => ?_
  subst he
  exact ⟨_, rfl, _, _, _, [], _, [], hW', trodAll_mk1 (shut_bool Try.underlying4 _), (trodAll_cons_mk (Below.trod laidOut (by kernel_rfl) (of_decide_eq_true (by kernel_rfl)) k0 bel lt0) (trodAll_cons_mk (Below.trod laidOut (by kernel_rfl) (of_decide_eq_true (by kernel_rfl)) k1 bel lt1) trodAll_mk0)), rfl, bel.frame _, fun h => by cases h⟩

theorem over : Rows.fnExactCoversRow.holds Try.pinned (OpenSpec.ofChange Rows.fnExactCoversSpec) :=
  OpenClaim.holds_of_wide 4 Try.f4 rfl rfl rfl rfl rfl rfl rfl ⟨rfl, rfl, rfl, rfl, rfl⟩ rfl rfl rfl rfl rfl (by kernel_rfl) Try.func4 (by kernel_rfl)
    (of_decide_eq_true (by kernel_rfl)) (by unfold Func.isWrapper; first | (rw [if_pos (by decide +kernel)]; kernel_rfl) | (rw [if_neg (by decide +kernel)]; exact ⟨rfl, rfl⟩))
    (fun os started H enc _ => lifted os started H enc)
end Go.Proofs.Ytbimcammjohaoab.fnExactCovers

namespace Go.Proofs.Ytbimcammjohaoab
theorem coversHolds : Rows.FnExactCoversSaid := fnExactCovers.over
#print axioms coversHolds
end Go.Proofs.Ytbimcammjohaoab
