import Derived.Test.YtdenbicnckkdfaaGreatMg44
import Derived.Test.YtdenbicnckkdfaaGreatMg40
namespace Go.Proofs.YtdenbicnckkdfaaGreat
open Go.ChangeShapes Go.WideShapes Go.ChangeAt Go.RowKit Go.Deep
set_option linter.unusedVariables false
set_option linter.unusedSimpArgs false

def sxE : Sx := ⟨[], 0, fun _ => 0, fun _ => 0, fun _ => 0⟩
noncomputable def flB (id : Int) (S S' : Sx) : Bool := rpB id S S' && !mtB S'

noncomputable def flD (id : Int) (S S' : Sx) : Sx := if flB id S S' = true then sxE else S'

noncomputable def flZ (id : Int) (S S' : Sx) : Int × List Int × Bool := if flB id S S' = true then (3, (sxZ S').1, true) else (0, [], false)
theorem flZ_len (id : Int) (S S' : Sx) : (flZ id S S').2.1.length ≤ 4000 := by
  unfold flZ
  split
  · exact sxZ_len S'
  · simp
theorem sxE_sm : sxE.Sm := ⟨by simp [sxE], fun i => by simp [sxE, gL], by simp [sxE]⟩
theorem flD_sm {id : Int} {S S' : Sx} (h : S'.Sm) : (flD id S S').Sm := by
  unfold flD
  split
  · exact sxE_sm
  · exact h

def FlS (id : Int) (S D : Sx) (Z : Int × List Int × Bool) (w : World) (e : Ending) (w' : World) : Prop := ∃ a ca x dx a' ca' x' dx' K v zs B, e = .returned (.tuple #[.agg #[.int .i64 id, .slice a S.l.length ca, .slice x S.n dx, .slice a' D.l.length ca', .slice x' D.n dx'], .agg #[.int .i64 K, v], .bool B]) ∧ SAt w' a x S ∧ SAt w' a' x' D ∧ Z = (K, zs, B) ∧ Own w' w.heap.size v zs ∧ Below w.heap.size w w'
set_option maxRecDepth 100000 in
set_option maxHeartbeats 2000000 in
theorem specFlush (id : Int) (g k g' k' lo mid hi : Nat) (S S' : Sx) (w : World) (hl : S.l.length ≤ 9223372036854775807) (hl' : S'.l.length ≤ 9223372036854775807) (hm : S.Sm) (hm' : S'.Sm) (h : SNw w lo mid g k S) (h' : SNw w mid hi g' k' S') :
    Calls Tryz.prog 5 #[.agg #[.int .i64 id, .slice (some ⟨g, 0, none⟩) S.l.length S.l.length, .slice (some ⟨k, 0, none⟩) S.n S.n, .slice (some ⟨g', 0, none⟩) S'.l.length S'.l.length, .slice (some ⟨k', 0, none⟩) S'.n S'.n]] w (FlS id S (flD id S S') (flZ id S S') w) := by
  obtain ⟨W, hW⟩ : ∃ W, ((w.alloc (.cells #[.int .i64 id, .slice (some ⟨g, 0, none⟩) S.l.length S.l.length, .slice (some ⟨k, 0, none⟩) S.n S.n, .slice (some ⟨g', 0, none⟩) S'.l.length S'.l.length, .slice (some ⟨k', 0, none⟩) S'.n S'.n] 38)).alloc (.cells #[.int .i64 0, .slice none 0 0, .slice none 0 0, .slice none 0 0, .slice none 0 0] 38)).alloc (.cells #[.int .i64 0, .slice none 0 0] 41) = W := ⟨_, rfl⟩
  have b0 : Below w.heap.size w W := by rw [← hW]; exact (((Below.refl _ _).alloc (Nat.le_refl _) _).alloc (by simp) _).alloc (by simp; omega) _
  have B0 : Bx5 W w.heap.size (.int .i64 id) (.slice (some ⟨g, 0, none⟩) S.l.length S.l.length) (.slice (some ⟨k, 0, none⟩) S.n S.n) (.slice (some ⟨g', 0, none⟩) S'.l.length S'.l.length) (.slice (some ⟨k', 0, none⟩) S'.n S'.n) := by rw [← hW]; exact ((Bx5.new _ _ _ _ _ _ _).up _).up _
  have R0 : Bx5 W (w.heap.size + 1) (.int .i64 0) (.slice none 0 0) (.slice none 0 0) (.slice none 0 0) (.slice none 0 0) := by
    rw [← hW]
    have := (Bx5.new (w.alloc (.cells #[.int .i64 id, .slice (some ⟨g, 0, none⟩) S.l.length S.l.length, .slice (some ⟨k, 0, none⟩) S.n S.n, .slice (some ⟨g', 0, none⟩) S'.l.length S'.l.length, .slice (some ⟨k', 0, none⟩) S'.n S'.n] 38)) (.int .i64 0) (.slice none 0 0) (.slice none 0 0) (.slice none 0 0) (.slice none 0 0) 38).up (.cells #[.int .i64 0, .slice none 0 0] 41)
    simpa using this
  have F0 : Bx2 W (w.heap.size + 1 + 1) (.int .i64 0) (.slice none 0 0) := by
    rw [← hW]
    have := Bx2.made ((w.alloc (.cells #[.int .i64 id, .slice (some ⟨g, 0, none⟩) S.l.length S.l.length, .slice (some ⟨k, 0, none⟩) S.n S.n, .slice (some ⟨g', 0, none⟩) S'.l.length S'.l.length, .slice (some ⟨k', 0, none⟩) S'.n S'.n] 38)).alloc (.cells #[.int .i64 0, .slice none 0 0, .slice none 0 0, .slice none 0 0, .slice none 0 0] 38)) (.int .i64 0) (.slice none 0 0) 41
    simpa using this
  have HO : Hid (∀ w1, Below W.heap.size W w1 → Calls Tryz.prog 15 #[.agg #[.int .i64 id, .slice (some ⟨g, 0, none⟩) S.l.length S.l.length, .slice (some ⟨k, 0, none⟩) S.n S.n, .slice (some ⟨g', 0, none⟩) S'.l.length S'.l.length, .slice (some ⟨k', 0, none⟩) S'.n S'.n]] w1 fun e w' => e = .returned (.bool (rpB id S S')) ∧ Below w1.heap.size w1 w') := hid (fun w1 hb => specReplicaOk id (some ⟨g, 0, none⟩) (some ⟨k, 0, none⟩) (some ⟨g', 0, none⟩) (some ⟨k', 0, none⟩) S.l.length S.n S'.l.length S'.n S S' w1 (Nat.le_refl _) hl (Nat.le_refl _) hl' hm hm' (h.below (keepS b0 hb)).cap.cap (h.below (keepS b0 hb)).rn (h'.below (keepS b0 hb)).cap.cap (h'.below (keepS b0 hb)).rn)
  have HCP : Hid (∀ w1, Below W.heap.size W w1 → Calls Tryz.prog 18 #[.agg #[.int .i64 id, .slice (some ⟨g, 0, none⟩) S.l.length S.l.length, .slice (some ⟨k, 0, none⟩) S.n S.n, .slice (some ⟨g', 0, none⟩) S'.l.length S'.l.length, .slice (some ⟨k', 0, none⟩) S'.n S'.n]] w1 fun e w' => ∃ a ca x dx a' ca' x' dx', e = .returned (.agg #[.int .i64 id, .slice a S.l.length ca, .slice x S.n dx, .slice a' S'.l.length ca', .slice x' S'.n dx']) ∧ SNu w' w1.heap.size a x S ∧ SNu w' w1.heap.size a' x' S' ∧ Below w1.heap.size w1 w') := hid (fun w1 hb => l6CopyC id g k g' k' lo mid hi S.l.length S.n S'.l.length S'.n S S' w1 hm hm' (h.below (keepS b0 hb)) (h'.below (keepS b0 hb)))
  have HPT : Hid (∀ w1, Below W.heap.size W w1 → Calls Tryz.prog 19 #[.agg #[.slice (some ⟨g', 0, none⟩) S'.l.length S'.l.length, .slice (some ⟨k', 0, none⟩) S'.n S'.n]] w1 fun e w' => ∃ v zs k, e = .returned (.tuple #[v, .int .i64 k]) ∧ sxZ S' = (zs, k) ∧ Own w' w1.heap.size v zs ∧ Below w1.heap.size w1 w') := hid (fun w1 hb => specPutSt (some ⟨g', 0, none⟩) (some ⟨k', 0, none⟩) S'.l.length S'.n S' w1 (Nat.le_refl _) hl' hm' (h'.below (keepS b0 hb)).cap.cap (h'.below (keepS b0 hb)).rn)
  have HEQ : Hid (∀ w1 b y, Calls Tryz.prog 16 #[.agg #[.slice (some ⟨g', 0, none⟩) S'.l.length S'.l.length, .slice (some ⟨k', 0, none⟩) S'.n S'.n], .agg #[.slice b 0 0, .slice y 0 0]] w1 fun e w' => e = .returned (.bool (mtB S')) ∧ Below w1.heap.size w1 w') := hid (fun w1 b y => l3EqualC (some ⟨g', 0, none⟩) (some ⟨k', 0, none⟩) b y S'.l.length S'.n S' w1 hm')
  have HFD1 : Hid (flB id S S' = true → flD id S S' = sxE ∧ flZ id S S' = (3, (sxZ S').1, true)) := hid (fun h => ⟨if_pos h, if_pos h⟩)
  have HFD2 : Hid (flB id S S' = false → flD id S S' = S' ∧ flZ id S S' = (0, [], false)) := hid (fun h => ⟨if_neg (by rw [h]; simp), if_neg (by rw [h]; simp)⟩)
  have HX := hid B0
  have HR := hid R0
  have HF := hid F0
  have HB0 := hid b0
  have HCS : Hid (∀ w', Below W.heap.size W w' → (Below W.heap.size W w' ∧ w'.cell? ⟨w.heap.size, 0, none⟩ = some (.int .i64 id) ∧ w'.cell? ⟨w.heap.size, 1, none⟩ = some (.slice (some ⟨g, 0, none⟩) S.l.length S.l.length) ∧ w'.cell? ⟨w.heap.size, 2, none⟩ = some (.slice (some ⟨k, 0, none⟩) S.n S.n) ∧ w'.cell? ⟨w.heap.size, 3, none⟩ = some (.slice (some ⟨g', 0, none⟩) S'.l.length S'.l.length) ∧ w'.cell? ⟨w.heap.size, 4, none⟩ = some (.slice (some ⟨k', 0, none⟩) S'.n S'.n))) := hid (fun w' hB => by
    have X := HX.out.below hB HX.out.lt
    exact ⟨hB, X.c0, X.c1, X.c2, X.c3, X.c4⟩)
  have hFl : w.heap.size + 1 + 1 < W.heap.size := F0.lt
  clear h h' b0 B0 R0 F0
  cases hr : rpB id S S' with
  | true =>
    rw [hr] at HO
    cases hmt : mtB S' with
    | true =>
      obtain ⟨e1, e2⟩ := HFD2.out (by unfold flB; rw [hr, hmt]; rfl)
      rw [e1, e2]
      rw [hmt] at HEQ
      clear e1 e2 HFD1 HFD2 hr hmt HPT
      go_enter Tryz.func5, Tryz.ntmps5
      go_wp2_with fail
      try rw [hW]
      clear hW
      refine wp_region_held_drew (S := fun w' => Below W.heap.size W w' ∧ w'.cell? ⟨w.heap.size, 0, none⟩ = some (.int .i64 id) ∧ w'.cell? ⟨w.heap.size, 1, none⟩ = some (.slice (some ⟨g, 0, none⟩) S.l.length S.l.length) ∧ w'.cell? ⟨w.heap.size, 2, none⟩ = some (.slice (some ⟨k, 0, none⟩) S.n S.n) ∧ w'.cell? ⟨w.heap.size, 3, none⟩ = some (.slice (some ⟨g', 0, none⟩) S'.l.length S'.l.length) ∧ w'.cell? ⟨w.heap.size, 4, none⟩ = some (.slice (some ⟨k', 0, none⟩) S'.n S'.n)) (by kernel_rfl) (HCS.out _ (Below.refl _ _).drew) (fun hHeld => ?_)
      refine take1 (i := 0) (d := some 8) (v := ?_) (by kernel_rfl) (by kernel_rfl) (by kernel_rfl) (by kernel_rfl) (fun _ _ _ h => h) ?_ hHeld ?_
      rotate_left
      · (intro o ho; simp only [List.getElem?_toArray, List.getElem?_cons_succ, List.getElem?_cons_zero, Option.some.injEq] at ho; subst ho; refine Or.inl ⟨by rfl, ?_⟩; intro w hSw; (try dsimp only at hSw); go_simp; try with_reducible rfl)
      try simp only [Act.put, List.setIfInBounds_toArray, List.set_cons_zero, List.set_cons_succ]
      refine call1 (i := 1) (d := some 9) (by kernel_rfl) (by kernel_rfl) ?_
      intro o ho hod K hK; simp only [List.getElem?_toArray, List.getElem?_cons_succ, List.getElem?_cons_zero, Option.some.injEq] at ho; subst ho
      go_simp
      refine (HO.out _ hHeld.1).mono ?_
      rintro e w1 ⟨rfl, b1⟩
      have hB1 := keepS hHeld.1 b1
      refine hK.out _ _ (HCS.out _ hB1) (fun hHeld => ?_)
      clear hK K
      try simp only [Act.put, List.setIfInBounds_toArray, List.set_cons_zero, List.set_cons_succ]
      refine take1 (i := 2) (d := some 10) (v := ?_) (by kernel_rfl) (by kernel_rfl) (by kernel_rfl) (by kernel_rfl) (fun _ _ _ h => h) ?_ hHeld ?_
      rotate_left
      · (intro o ho; simp only [List.getElem?_toArray, List.getElem?_cons_succ, List.getElem?_cons_zero, Option.some.injEq] at ho; subst ho; refine Or.inl ⟨by rfl, ?_⟩; intro w hSw; (try dsimp only at hSw); go_simp; try with_reducible rfl)
      try simp only [Act.put, List.setIfInBounds_toArray, List.set_cons_zero, List.set_cons_succ]
      refine take1 (i := 3) (d := some 11) (v := ?_) (by kernel_rfl) (by kernel_rfl) (by kernel_rfl) (by kernel_rfl) (fun _ _ _ h => h) ?_ hHeld ?_
      rotate_left
      · (intro o ho; simp only [List.getElem?_toArray, List.getElem?_cons_succ, List.getElem?_cons_zero, Option.some.injEq] at ho; subst ho; refine Or.inl ⟨by rfl, ?_⟩; intro w hSw; (try dsimp only at hSw); go_simp; try with_reducible rfl)
      try simp only [Act.put, List.setIfInBounds_toArray, List.set_cons_zero, List.set_cons_succ]
      refine take1 (i := 4) (d := some 12) (v := ?_) (by kernel_rfl) (by kernel_rfl) (by kernel_rfl) (by kernel_rfl) (fun _ _ _ h => h) ?_ hHeld ?_
      rotate_left
      · (intro o ho; simp only [List.getElem?_toArray, List.getElem?_cons_succ, List.getElem?_cons_zero, Option.some.injEq] at ho; subst ho; refine Or.inl ⟨by rfl, ?_⟩; intro w hSw; (try dsimp only at hSw); go_simp; try with_reducible rfl)
      try simp only [Act.put, List.setIfInBounds_toArray, List.set_cons_zero, List.set_cons_succ]
      refine take1 (i := 5) (d := some 13) (v := ?_) (by kernel_rfl) (by kernel_rfl) (by kernel_rfl) (by kernel_rfl) (fun _ _ _ h => h) ?_ hHeld ?_
      rotate_left
      · (intro o ho; simp only [List.getElem?_toArray, List.getElem?_cons_succ, List.getElem?_cons_zero, Option.some.injEq] at ho; subst ho; refine Or.inl ⟨by rfl, ?_⟩; intro w hSw; (try dsimp only at hSw); go_simp; try with_reducible rfl)
      try simp only [Act.put, List.setIfInBounds_toArray, List.set_cons_zero, List.set_cons_succ]
      refine call1 (i := 6) (d := some 14) (by kernel_rfl) (by kernel_rfl) ?_
      intro o ho hod K hK; simp only [List.getElem?_toArray, List.getElem?_cons_succ, List.getElem?_cons_zero, Option.some.injEq] at ho; subst ho
      go_simp
      refine (l6EmptyC _).mono ?_
      rintro e w2 ⟨eg, ek, rfl, b2⟩
      have hB2 := keepS hB1 b2
      refine hK.out _ _ (HCS.out _ hB2) (fun hHeld => ?_)
      clear hK K
      try simp only [Act.put, List.setIfInBounds_toArray, List.set_cons_zero, List.set_cons_succ]
      refine call1 (i := 7) (d := some 15) (by kernel_rfl) (by kernel_rfl) ?_
      intro o ho hod K hK; simp only [List.getElem?_toArray, List.getElem?_cons_succ, List.getElem?_cons_zero, Option.some.injEq] at ho; subst ho
      go_simp
      refine (HEQ.out _ _ _).mono ?_
      rintro e w3 ⟨rfl, b3⟩
      have hB3 := keepS hB2 b3
      refine hK.out _ _ (HCS.out _ hB3) (fun hHeld => ?_)
      clear hK K
      try simp only [Act.put, List.setIfInBounds_toArray, List.set_cons_zero, List.set_cons_succ]
      refine take1 (i := 8) (d := some 16) (v := ?_) (by kernel_rfl) (by kernel_rfl) (by kernel_rfl) (by kernel_rfl) (fun _ _ _ h => h) ?_ hHeld ?_
      rotate_left
      · (intro o ho; simp only [List.getElem?_toArray, List.getElem?_cons_succ, List.getElem?_cons_zero, Option.some.injEq] at ho; subst ho; refine Or.inl ⟨by rfl, ?_⟩; intro w hSw; (try dsimp only at hSw); go_simp; try with_reducible rfl)
      try simp only [Act.put, List.setIfInBounds_toArray, List.set_cons_zero, List.set_cons_succ]
      refine wpAnyH_done (by kernel_rfl) ?_ _
      clear hHeld hB1 hB2 b1 b2 b3
      have HB3 := hid hB3
      have X3 := HX.out.below hB3 HX.out.lt
      have p0 := X3.c0
      have p1 := X3.c1
      have p2 := X3.c2
      have p3 := X3.c3
      have p4 := X3.c4
      clear hB3 X3
      go_wp2_with fail
      refine (HCP.out w3 HB3.out).mono ?_
      rintro e w4 ⟨a, ca, x, dx, a', ca', x', dx', rfl, s1, s2, b4⟩
      have hB4 := keepS HB3.out b4
      have R4 := HR.out.below hB4 HR.out.lt
      have F4 := HF.out.below hB4 HF.out.lt
      have r0 := R4.c0
      have r1 := R4.c1
      have r2 := R4.c2
      have r3 := R4.c3
      have r4 := R4.c4
      have rf := R4.f
      have f0 := F4.c0
      have f1 := F4.c1
      have ff := F4.f
      have HS1 := hid s1
      have HS2 := hid s2
      have HB4 := hid (keepS HB0.out hB4)
      have hz3 : W.heap.size ≤ w3.heap.size := HB3.out.size
      clear s1 s2 b4 hB4 R4 F4 p0 p1 p2 p3 p4
      go_wp2_with fail
      refine bodyPost_ret (v := .tuple #[.agg #[.int .i64 id, .slice a S.l.length ca, .slice x S.n dx, .slice a' S'.l.length ca', .slice x' S'.n dx'], .agg #[.int .i64 0, .slice none 0 0], .bool false]) (by simp [results, Tryz.results5, go_sem, r0, r1, r2, r3, r4, f0, f1]) rfl ?_
      refine ⟨a, ca, x, dx, a', ca', x', dx', 0, .slice none 0 0, [], false, rfl, ?_, ?_, rfl, World.ownsRow_nil _ _ _ _, ?_⟩
      · refine SNu.at (lo := w3.heap.size) ?_
        repeat (refine SNu.set ?_ _ _ (by simp; omega))
        exact HS1.out
      · refine SNu.at (lo := w3.heap.size) ?_
        repeat (refine SNu.set ?_ _ _ (by simp; omega))
        exact HS2.out
      · repeat (refine Below.setCell ?_ (by simp; try omega) _)
        exact HB4.out
    | false =>
      obtain ⟨e1, e2⟩ := HFD1.out (by unfold flB; rw [hr, hmt]; rfl)
      rw [e1, e2]
      rw [hmt] at HEQ
      clear e1 e2 HFD1 HFD2 hr hmt
      go_enter Tryz.func5, Tryz.ntmps5
      go_wp2_with fail
      try rw [hW]
      clear hW
      refine wp_region_held_drew (S := fun w' => Below W.heap.size W w' ∧ w'.cell? ⟨w.heap.size, 0, none⟩ = some (.int .i64 id) ∧ w'.cell? ⟨w.heap.size, 1, none⟩ = some (.slice (some ⟨g, 0, none⟩) S.l.length S.l.length) ∧ w'.cell? ⟨w.heap.size, 2, none⟩ = some (.slice (some ⟨k, 0, none⟩) S.n S.n) ∧ w'.cell? ⟨w.heap.size, 3, none⟩ = some (.slice (some ⟨g', 0, none⟩) S'.l.length S'.l.length) ∧ w'.cell? ⟨w.heap.size, 4, none⟩ = some (.slice (some ⟨k', 0, none⟩) S'.n S'.n)) (by kernel_rfl) (HCS.out _ (Below.refl _ _).drew) (fun hHeld => ?_)
      refine take1 (i := 0) (d := some 8) (v := ?_) (by kernel_rfl) (by kernel_rfl) (by kernel_rfl) (by kernel_rfl) (fun _ _ _ h => h) ?_ hHeld ?_
      rotate_left
      · (intro o ho; simp only [List.getElem?_toArray, List.getElem?_cons_succ, List.getElem?_cons_zero, Option.some.injEq] at ho; subst ho; refine Or.inl ⟨by rfl, ?_⟩; intro w hSw; (try dsimp only at hSw); go_simp; try with_reducible rfl)
      try simp only [Act.put, List.setIfInBounds_toArray, List.set_cons_zero, List.set_cons_succ]
      refine call1 (i := 1) (d := some 9) (by kernel_rfl) (by kernel_rfl) ?_
      intro o ho hod K hK; simp only [List.getElem?_toArray, List.getElem?_cons_succ, List.getElem?_cons_zero, Option.some.injEq] at ho; subst ho
      go_simp
      refine (HO.out _ hHeld.1).mono ?_
      rintro e w1 ⟨rfl, b1⟩
      have hB1 := keepS hHeld.1 b1
      refine hK.out _ _ (HCS.out _ hB1) (fun hHeld => ?_)
      clear hK K
      try simp only [Act.put, List.setIfInBounds_toArray, List.set_cons_zero, List.set_cons_succ]
      refine take1 (i := 2) (d := some 10) (v := ?_) (by kernel_rfl) (by kernel_rfl) (by kernel_rfl) (by kernel_rfl) (fun _ _ _ h => h) ?_ hHeld ?_
      rotate_left
      · (intro o ho; simp only [List.getElem?_toArray, List.getElem?_cons_succ, List.getElem?_cons_zero, Option.some.injEq] at ho; subst ho; refine Or.inl ⟨by rfl, ?_⟩; intro w hSw; (try dsimp only at hSw); go_simp; try with_reducible rfl)
      try simp only [Act.put, List.setIfInBounds_toArray, List.set_cons_zero, List.set_cons_succ]
      refine take1 (i := 3) (d := some 11) (v := ?_) (by kernel_rfl) (by kernel_rfl) (by kernel_rfl) (by kernel_rfl) (fun _ _ _ h => h) ?_ hHeld ?_
      rotate_left
      · (intro o ho; simp only [List.getElem?_toArray, List.getElem?_cons_succ, List.getElem?_cons_zero, Option.some.injEq] at ho; subst ho; refine Or.inl ⟨by rfl, ?_⟩; intro w hSw; (try dsimp only at hSw); go_simp; try with_reducible rfl)
      try simp only [Act.put, List.setIfInBounds_toArray, List.set_cons_zero, List.set_cons_succ]
      refine take1 (i := 4) (d := some 12) (v := ?_) (by kernel_rfl) (by kernel_rfl) (by kernel_rfl) (by kernel_rfl) (fun _ _ _ h => h) ?_ hHeld ?_
      rotate_left
      · (intro o ho; simp only [List.getElem?_toArray, List.getElem?_cons_succ, List.getElem?_cons_zero, Option.some.injEq] at ho; subst ho; refine Or.inl ⟨by rfl, ?_⟩; intro w hSw; (try dsimp only at hSw); go_simp; try with_reducible rfl)
      try simp only [Act.put, List.setIfInBounds_toArray, List.set_cons_zero, List.set_cons_succ]
      refine take1 (i := 5) (d := some 13) (v := ?_) (by kernel_rfl) (by kernel_rfl) (by kernel_rfl) (by kernel_rfl) (fun _ _ _ h => h) ?_ hHeld ?_
      rotate_left
      · (intro o ho; simp only [List.getElem?_toArray, List.getElem?_cons_succ, List.getElem?_cons_zero, Option.some.injEq] at ho; subst ho; refine Or.inl ⟨by rfl, ?_⟩; intro w hSw; (try dsimp only at hSw); go_simp; try with_reducible rfl)
      try simp only [Act.put, List.setIfInBounds_toArray, List.set_cons_zero, List.set_cons_succ]
      refine call1 (i := 6) (d := some 14) (by kernel_rfl) (by kernel_rfl) ?_
      intro o ho hod K hK; simp only [List.getElem?_toArray, List.getElem?_cons_succ, List.getElem?_cons_zero, Option.some.injEq] at ho; subst ho
      go_simp
      refine (l6EmptyC _).mono ?_
      rintro e w2 ⟨eg, ek, rfl, b2⟩
      have hB2 := keepS hB1 b2
      refine hK.out _ _ (HCS.out _ hB2) (fun hHeld => ?_)
      clear hK K
      try simp only [Act.put, List.setIfInBounds_toArray, List.set_cons_zero, List.set_cons_succ]
      refine call1 (i := 7) (d := some 15) (by kernel_rfl) (by kernel_rfl) ?_
      intro o ho hod K hK; simp only [List.getElem?_toArray, List.getElem?_cons_succ, List.getElem?_cons_zero, Option.some.injEq] at ho; subst ho
      go_simp
      refine (HEQ.out _ _ _).mono ?_
      rintro e w3 ⟨rfl, b3⟩
      have hB3 := keepS hB2 b3
      refine hK.out _ _ (HCS.out _ hB3) (fun hHeld => ?_)
      clear hK K
      try simp only [Act.put, List.setIfInBounds_toArray, List.set_cons_zero, List.set_cons_succ]
      refine take1 (i := 8) (d := some 16) (v := ?_) (by kernel_rfl) (by kernel_rfl) (by kernel_rfl) (by kernel_rfl) (fun _ _ _ h => h) ?_ hHeld ?_
      rotate_left
      · (intro o ho; simp only [List.getElem?_toArray, List.getElem?_cons_succ, List.getElem?_cons_zero, Option.some.injEq] at ho; subst ho; refine Or.inl ⟨by rfl, ?_⟩; intro w hSw; (try dsimp only at hSw); go_simp; try with_reducible rfl)
      try simp only [Act.put, List.setIfInBounds_toArray, List.set_cons_zero, List.set_cons_succ]
      refine wpAnyH_done (by kernel_rfl) ?_ _
      clear hHeld hB1 hB2 b1 b2 b3
      have HB3 := hid hB3
      have X3 := HX.out.below hB3 HX.out.lt
      have p0 := X3.c0
      have p1 := X3.c1
      have p2 := X3.c2
      have p3 := X3.c3
      have p4 := X3.c4
      clear hB3 X3
      go_wp2_with fail
      refine (HPT.out w3 HB3.out).mono ?_
      rintro e w4 ⟨v, zs, kk, rfl, hz, ho, b4⟩
      have hB4 := keepS HB3.out b4
      have HB4 := hid hB4
      have X4 := HX.out.below hB4 HX.out.lt
      obtain ⟨va, vc, rfl, _⟩ := ho.any
      have HO4 := hid ho
      have HZ : Hid ((sxZ S').1 = zs) := hid (by rw [hz])
      clear p0 p1 p2 p3 p4 hz ho b4 hB4
      have p0 := X4.c0
      have p1 := X4.c1
      have p2 := X4.c2
      have p3 := X4.c3
      have p4 := X4.c4
      clear X4
      go_wp2_with fail
      refine (HCP.out w4 HB4.out).mono ?_
      rintro e w5 ⟨a, ca, x, dx, a', ca', x', dx', rfl, s1, s2, b5⟩
      obtain ⟨w5b, hw5b⟩ : ∃ w5b, w5.alloc (.cells #[.int .i64 id, .slice a S.l.length ca, .slice x S.n dx, .slice a' S'.l.length ca', .slice x' S'.n dx'] 38) = w5b := ⟨_, rfl⟩
      have b5b : Below w5.heap.size w5 w5b := by rw [← hw5b]; exact (Below.refl _ _).alloc (Nat.le_refl _) _
      have O5 : Bx5 w5b w5.heap.size (.int .i64 id) (.slice a S.l.length ca) (.slice x S.n dx) (.slice a' S'.l.length ca') (.slice x' S'.n dx') := by rw [← hw5b]; exact Bx5.new _ _ _ _ _ _ _
      have HB5 := hid (keepS HB4.out (keepS b5 b5b))
      have HS5 := hid s1
      have HBB5 : Hid (∀ q, q < w5.heap.size → w5b.heap[q]? = w5.heap[q]?) := hid (fun q hq => b5b.block q hq)
      have hzb : w5.heap.size < w5b.heap.size := O5.lt
      have HO5 : Hid (Own w5b w3.heap.size (.slice va zs.length vc) zs) := hid (own_at5 HO4.out fun q hq => (keepS b5 b5b).block q (World.ownsRow.lt HO4.out q hq).2)
      have HOlt : Hid (∀ q, (Value.slice va zs.length vc).ownBlock = some q → q < w4.heap.size) := hid (fun q hq => (World.ownsRow.lt HO4.out q hq).2)
      have HOX := hid O5
      have hz45 : w4.heap.size ≤ w5.heap.size := b5.size
      have o0 := O5.c0
      have o1 := O5.c1
      have o2 := O5.c2
      have o3 := O5.c3
      have o4 := O5.c4
      clear p0 p1 p2 p3 p4 s1 s2 b5 b5b O5
      go_wp2_with fail
      try rw [hw5b]
      clear hw5b
      refine (l6EmptyC _).mono ?_
      rintro e w6 ⟨eg, ek, rfl, b6⟩
      have hB6 := keepS HB5.out b6
      have R6 := HR.out.below hB6 HR.out.lt
      have F6 := HF.out.below hB6 HF.out.lt
      have O6 := HOX.out.below b6 HOX.out.lt
      clear o0 o1 o2 o3 o4
      have r0 := R6.c0
      have r1 := R6.c1
      have r2 := R6.c2
      have r3 := R6.c3
      have r4 := R6.c4
      have rf := R6.f
      have f0 := F6.c0
      have f1 := F6.c1
      have ff := F6.f
      have o0 := O6.c0
      have o1 := O6.c1
      have o2 := O6.c2
      have o3 := O6.c3
      have o4 := O6.c4
      have of := O6.f
      have HB6 := hid (keepS HB0.out hB6)
      have HBB6 : Hid (∀ q, q < w5.heap.size → w6.heap[q]? = w5.heap[q]?) := hid (fun q hq => (b6.block q (by omega)).trans (HBB5.out q hq))
      have hz56 : w5b.heap.size ≤ w6.heap.size := b6.size
      have HO6 : Hid (Own w6 w3.heap.size (.slice va zs.length vc) zs) := hid (own_at5 HO5.out fun q hq => b6.block q (World.ownsRow.lt HO5.out q hq).2)
      have hz3 : W.heap.size ≤ w3.heap.size := HB3.out.size
      have hz4 : W.heap.size ≤ w4.heap.size := HB4.out.size
      have HZB : Hid (w.heap.size ≤ W.heap.size) := hid HB0.out.size
      clear b6 hB6 R6 F6 O6
      go_wp2_with fail
      refine bodyPost_ret (v := .tuple #[.agg #[.int .i64 id, .slice a S.l.length ca, .slice x S.n dx, .slice (some ⟨eg, 0, none⟩) 0 0, .slice (some ⟨ek, 0, none⟩) 0 0], .agg #[.int .i64 3, .slice va zs.length vc], .bool true]) (by simp [results, Tryz.results5, go_sem, r0, r1, r2, r3, r4, f0, f1]) rfl ?_
      refine ⟨a, ca, x, dx, some ⟨eg, 0, none⟩, 0, some ⟨ek, 0, none⟩, 0, 3, .slice va zs.length vc, zs, true, rfl, ?_, ⟨.inl rfl, .inl rfl⟩, by rw [HZ.out], ?_, ?_⟩
      · refine HS5.out _ (by simp [World.setCell]; omega) (fun q h1 h2 => ?_)
        repeat (rw [Below.heap_setCell _ _ _ _ (by simp; omega)])
        exact HBB6.out q h2
      · refine Own.weak (B := w3.heap.size) ?_ (by have := HZB.out; omega)
        refine own_at5 HO6.out fun q hq => ?_
        have h1 := (World.ownsRow.lt HO6.out q hq).1
        have h2 := HOlt.out q hq
        repeat (rw [Below.heap_setCell _ _ _ _ (by simp; omega)])
      · have hzz := HZB.out
        repeat (refine Below.setCell ?_ (by simp; try omega) _)
        exact HB6.out
  | false =>
    rw [hr] at HO
    obtain ⟨e1, e2⟩ := HFD2.out (by unfold flB; rw [hr]; rfl)
    rw [e1, e2]
    clear e1 e2 HFD1 HFD2 hr HPT HEQ
    go_enter Tryz.func5, Tryz.ntmps5
    go_wp2_with fail
    try rw [hW]
    clear hW
    refine wp_region_held_drew (S := fun w' => Below W.heap.size W w' ∧ w'.cell? ⟨w.heap.size, 0, none⟩ = some (.int .i64 id) ∧ w'.cell? ⟨w.heap.size, 1, none⟩ = some (.slice (some ⟨g, 0, none⟩) S.l.length S.l.length) ∧ w'.cell? ⟨w.heap.size, 2, none⟩ = some (.slice (some ⟨k, 0, none⟩) S.n S.n) ∧ w'.cell? ⟨w.heap.size, 3, none⟩ = some (.slice (some ⟨g', 0, none⟩) S'.l.length S'.l.length) ∧ w'.cell? ⟨w.heap.size, 4, none⟩ = some (.slice (some ⟨k', 0, none⟩) S'.n S'.n)) (by kernel_rfl) (HCS.out _ (Below.refl _ _).drew) (fun hHeld => ?_)
    refine take1 (i := 0) (d := some 8) (v := ?_) (by kernel_rfl) (by kernel_rfl) (by kernel_rfl) (by kernel_rfl) (fun _ _ _ h => h) ?_ hHeld ?_
    rotate_left
    · (intro o ho; simp only [List.getElem?_toArray, List.getElem?_cons_succ, List.getElem?_cons_zero, Option.some.injEq] at ho; subst ho; refine Or.inl ⟨by rfl, ?_⟩; intro w hSw; (try dsimp only at hSw); go_simp; try with_reducible rfl)
    try simp only [Act.put, List.setIfInBounds_toArray, List.set_cons_zero, List.set_cons_succ]
    refine call1 (i := 1) (d := some 9) (by kernel_rfl) (by kernel_rfl) ?_
    intro o ho hod K hK; simp only [List.getElem?_toArray, List.getElem?_cons_succ, List.getElem?_cons_zero, Option.some.injEq] at ho; subst ho
    go_simp
    refine (HO.out _ hHeld.1).mono ?_
    rintro e w3 ⟨rfl, b1⟩
    have hB3 := keepS hHeld.1 b1
    refine hK.out _ _ (HCS.out _ hB3) (fun hHeld => ?_)
    clear hK K
    try simp only [Act.put, List.setIfInBounds_toArray, List.set_cons_zero, List.set_cons_succ]
    refine take1 (i := 2) (d := some 10) (v := ?_) (by kernel_rfl) (by kernel_rfl) (by kernel_rfl) (by kernel_rfl) (fun _ _ _ h => h) ?_ hHeld ?_
    rotate_left
    · (intro o ho; simp only [List.getElem?_toArray, List.getElem?_cons_succ, List.getElem?_cons_zero, Option.some.injEq] at ho; subst ho; refine Or.inl ⟨by rfl, ?_⟩; intro w hSw; (try dsimp only at hSw); go_simp; try with_reducible rfl)
    try simp only [Act.put, List.setIfInBounds_toArray, List.set_cons_zero, List.set_cons_succ]
    refine take1 (i := 3) (d := some 11) (v := ?_) (by kernel_rfl) (by kernel_rfl) (by kernel_rfl) (by kernel_rfl) (fun _ _ _ h => h) ?_ hHeld ?_
    rotate_left
    · (intro o ho; simp only [List.getElem?_toArray, List.getElem?_cons_succ, List.getElem?_cons_zero, Option.some.injEq] at ho; subst ho; refine Or.inl ⟨by rfl, ?_⟩; intro w hSw; (try dsimp only at hSw); go_simp; try with_reducible rfl)
    try simp only [Act.put, List.setIfInBounds_toArray, List.set_cons_zero, List.set_cons_succ]
    refine take1 (i := 4) (d := some 12) (v := undef) (by kernel_rfl) (by kernel_rfl) (by kernel_rfl) (by kernel_rfl) (fun _ _ _ h => h) ?_ hHeld ?_
    · (intro o ho; simp only [List.getElem?_toArray, List.getElem?_cons_succ, List.getElem?_cons_zero, Option.some.injEq] at ho; subst ho; exact Or.inr ⟨by rfl, rfl⟩)
    try simp only [Act.put, List.setIfInBounds_toArray, List.set_cons_zero, List.set_cons_succ]
    refine take1 (i := 5) (d := some 13) (v := undef) (by kernel_rfl) (by kernel_rfl) (by kernel_rfl) (by kernel_rfl) (fun _ _ _ h => h) ?_ hHeld ?_
    · (intro o ho; simp only [List.getElem?_toArray, List.getElem?_cons_succ, List.getElem?_cons_zero, Option.some.injEq] at ho; subst ho; exact Or.inr ⟨by rfl, rfl⟩)
    try simp only [Act.put, List.setIfInBounds_toArray, List.set_cons_zero, List.set_cons_succ]
    refine take1 (i := 6) (d := some 14) (v := undef) (by kernel_rfl) (by kernel_rfl) (by kernel_rfl) (by kernel_rfl) (fun _ _ _ h => h) ?_ hHeld ?_
    · (intro o ho; simp only [List.getElem?_toArray, List.getElem?_cons_succ, List.getElem?_cons_zero, Option.some.injEq] at ho; subst ho; exact Or.inr ⟨by rfl, rfl⟩)
    try simp only [Act.put, List.setIfInBounds_toArray, List.set_cons_zero, List.set_cons_succ]
    refine take1 (i := 7) (d := some 15) (v := undef) (by kernel_rfl) (by kernel_rfl) (by kernel_rfl) (by kernel_rfl) (fun _ _ _ h => h) ?_ hHeld ?_
    · (intro o ho; simp only [List.getElem?_toArray, List.getElem?_cons_succ, List.getElem?_cons_zero, Option.some.injEq] at ho; subst ho; exact Or.inr ⟨by rfl, rfl⟩)
    try simp only [Act.put, List.setIfInBounds_toArray, List.set_cons_zero, List.set_cons_succ]
    refine take1 (i := 8) (d := some 16) (v := ?_) (by kernel_rfl) (by kernel_rfl) (by kernel_rfl) (by kernel_rfl) (fun _ _ _ h => h) ?_ hHeld ?_
    rotate_left
    · (intro o ho; simp only [List.getElem?_toArray, List.getElem?_cons_succ, List.getElem?_cons_zero, Option.some.injEq] at ho; subst ho; refine Or.inl ⟨by rfl, ?_⟩; intro w hSw; (try dsimp only at hSw); go_simp; try with_reducible rfl)
    try simp only [Act.put, List.setIfInBounds_toArray, List.set_cons_zero, List.set_cons_succ]
    refine wpAnyH_done (by kernel_rfl) ?_ _
    clear hHeld b1
    have HB3 := hid hB3
    have X3 := HX.out.below hB3 HX.out.lt
    have p0 := X3.c0
    have p1 := X3.c1
    have p2 := X3.c2
    have p3 := X3.c3
    have p4 := X3.c4
    clear hB3 X3
    go_wp2_with fail
    refine (HCP.out w3 HB3.out).mono ?_
    rintro e w4 ⟨a, ca, x, dx, a', ca', x', dx', rfl, s1, s2, b4⟩
    have hB4 := keepS HB3.out b4
    have R4 := HR.out.below hB4 HR.out.lt
    have F4 := HF.out.below hB4 HF.out.lt
    have r0 := R4.c0
    have r1 := R4.c1
    have r2 := R4.c2
    have r3 := R4.c3
    have r4 := R4.c4
    have rf := R4.f
    have f0 := F4.c0
    have f1 := F4.c1
    have ff := F4.f
    have HS1 := hid s1
    have HS2 := hid s2
    have HB4 := hid (keepS HB0.out hB4)
    have hz3 : W.heap.size ≤ w3.heap.size := HB3.out.size
    clear s1 s2 b4 hB4 R4 F4 p0 p1 p2 p3 p4
    go_wp2_with fail
    refine bodyPost_ret (v := .tuple #[.agg #[.int .i64 id, .slice a S.l.length ca, .slice x S.n dx, .slice a' S'.l.length ca', .slice x' S'.n dx'], .agg #[.int .i64 0, .slice none 0 0], .bool false]) (by simp [results, Tryz.results5, go_sem, r0, r1, r2, r3, r4, f0, f1]) rfl ?_
    refine ⟨a, ca, x, dx, a', ca', x', dx', 0, .slice none 0 0, [], false, rfl, ?_, ?_, rfl, World.ownsRow_nil _ _ _ _, ?_⟩
    · refine SNu.at (lo := w3.heap.size) ?_
      repeat (refine SNu.set ?_ _ _ (by simp; omega))
      exact HS1.out
    · refine SNu.at (lo := w3.heap.size) ?_
      repeat (refine SNu.set ?_ _ _ (by simp; omega))
      exact HS2.out
    · repeat (refine Below.setCell ?_ (by simp; try omega) _)
      exact HB4.out
end Go.Proofs.YtdenbicnckkdfaaGreat

namespace Go.Proofs.YtdenbicnckkdfaaGreat
open Go.ChangeShapes Go.WideShapes Go.ChangeAt Go.RowKit Go.Deep
set_option linter.unusedVariables false
set_option linter.unusedSimpArgs false

def FlI (id : Int) (S D : Sx) (Z : Int × List Int × Bool) (w : World) (e : Ending) (w' : World) : Prop := ∃ a ca x dx a' ca' x' dx' m2 h2 K v zs B, e = .returned (.tuple #[.agg #[.int .i64 id, .slice a S.l.length ca, .slice x S.n dx, .slice a' D.l.length ca', .slice x' D.n dx'], .agg #[.int .i64 K, v], .bool B]) ∧ SOw w' w.heap.size m2 a x dx S ∧ SOw w' m2 h2 a' x' dx' D ∧ Z = (K, zs, B) ∧ Own w' h2 v zs ∧ Below w.heap.size w w'
set_option maxRecDepth 100000 in
set_option maxHeartbeats 2000000 in
theorem implFlush (id : Int) (g k g' k' lo mid hi : Nat) (S S' : Sx) (w : World) (hi1 : ∀ i, LfI (gL S.l i)) (hi2 : ∀ i, LfI (gL S'.l i)) (hm : S.Sm) (hm' : S'.Sm) (h : SNw w lo mid g k S) (h' : SNw w mid hi g' k' S') :
    Calls Tryz.prog 7 #[.agg #[.int .i64 id, .slice (some ⟨g, 0, none⟩) S.l.length S.l.length, .slice (some ⟨k, 0, none⟩) S.n S.n, .slice (some ⟨g', 0, none⟩) S'.l.length S'.l.length, .slice (some ⟨k', 0, none⟩) S'.n S'.n]] w (FlI id S (flD id S S') (flZ id S S') w) := by
  obtain ⟨W, hW⟩ : ∃ W, ((w.alloc (.cells #[.int .i64 id, .slice (some ⟨g, 0, none⟩) S.l.length S.l.length, .slice (some ⟨k, 0, none⟩) S.n S.n, .slice (some ⟨g', 0, none⟩) S'.l.length S'.l.length, .slice (some ⟨k', 0, none⟩) S'.n S'.n] 38)).alloc (.cells #[.int .i64 0, .slice none 0 0, .slice none 0 0, .slice none 0 0, .slice none 0 0] 38)).alloc (.cells #[.int .i64 0, .slice none 0 0] 41) = W := ⟨_, rfl⟩
  have b0 : Below w.heap.size w W := by rw [← hW]; exact (((Below.refl _ _).alloc (Nat.le_refl _) _).alloc (by simp) _).alloc (by simp; omega) _
  have B0 : Bx5 W w.heap.size (.int .i64 id) (.slice (some ⟨g, 0, none⟩) S.l.length S.l.length) (.slice (some ⟨k, 0, none⟩) S.n S.n) (.slice (some ⟨g', 0, none⟩) S'.l.length S'.l.length) (.slice (some ⟨k', 0, none⟩) S'.n S'.n) := by rw [← hW]; exact ((Bx5.new _ _ _ _ _ _ _).up _).up _
  have R0 : Bx5 W (w.heap.size + 1) (.int .i64 0) (.slice none 0 0) (.slice none 0 0) (.slice none 0 0) (.slice none 0 0) := by
    rw [← hW]
    have := (Bx5.new (w.alloc (.cells #[.int .i64 id, .slice (some ⟨g, 0, none⟩) S.l.length S.l.length, .slice (some ⟨k, 0, none⟩) S.n S.n, .slice (some ⟨g', 0, none⟩) S'.l.length S'.l.length, .slice (some ⟨k', 0, none⟩) S'.n S'.n] 38)) (.int .i64 0) (.slice none 0 0) (.slice none 0 0) (.slice none 0 0) (.slice none 0 0) 38).up (.cells #[.int .i64 0, .slice none 0 0] 41)
    simpa using this
  have F0 : Bx2 W (w.heap.size + 1 + 1) (.int .i64 0) (.slice none 0 0) := by
    rw [← hW]
    have := Bx2.made ((w.alloc (.cells #[.int .i64 id, .slice (some ⟨g, 0, none⟩) S.l.length S.l.length, .slice (some ⟨k, 0, none⟩) S.n S.n, .slice (some ⟨g', 0, none⟩) S'.l.length S'.l.length, .slice (some ⟨k', 0, none⟩) S'.n S'.n] 38)).alloc (.cells #[.int .i64 0, .slice none 0 0, .slice none 0 0, .slice none 0 0, .slice none 0 0] 38)) (.int .i64 0) (.slice none 0 0) 41
    simpa using this
  have HO : Hid (∀ w1, Below W.heap.size W w1 → Calls Tryz.prog 22 #[.agg #[.int .i64 id, .slice (some ⟨g, 0, none⟩) S.l.length S.l.length, .slice (some ⟨k, 0, none⟩) S.n S.n, .slice (some ⟨g', 0, none⟩) S'.l.length S'.l.length, .slice (some ⟨k', 0, none⟩) S'.n S'.n]] w1 fun e w' => e = .returned (.bool (rpB id S S')) ∧ Below w1.heap.size w1 w') := hid (fun w1 hb => implReplicaOk id (some ⟨g, 0, none⟩) (some ⟨k, 0, none⟩) (some ⟨g', 0, none⟩) (some ⟨k', 0, none⟩) S.l.length S.n S'.l.length S'.n S S' w1 hi1 hi2 hm hm' (h.below (keepS b0 hb)).at (h'.below (keepS b0 hb)).at)
  have HCP := hid (copyReplicaC id g k g' k' lo mid hi S.l.length S.n S'.l.length S'.n S S' W hm hm' (h.below b0) (h'.below b0))
  have HPT : Hid (∀ w1, Below W.heap.size W w1 → Calls Tryz.prog 24 #[.agg #[.slice (some ⟨g', 0, none⟩) S'.l.length S'.l.length, .slice (some ⟨k', 0, none⟩) S'.n S'.n]] w1 fun e w' => ∃ v zs k, e = .returned (.tuple #[v, .int .i64 k]) ∧ sxZ S' = (zs, k) ∧ Own w' w1.heap.size v zs ∧ Below w1.heap.size w1 w') := hid (fun w1 hb => implPutSt (some ⟨g', 0, none⟩) (some ⟨k', 0, none⟩) S'.l.length S'.n S' w1 hi2 hm' (h'.below (keepS b0 hb)).at)
  have HEQ : Hid (∀ w1, Calls Tryz.prog 23 #[.agg #[.slice (some ⟨g', 0, none⟩) S'.l.length S'.l.length, .slice (some ⟨k', 0, none⟩) S'.n S'.n], .agg #[.slice none 0 0, .slice none 0 0]] w1 fun e w' => e = .returned (.bool (mtB S')) ∧ Below w1.heap.size w1 w') := hid (fun w1 => sameStateC (some ⟨g', 0, none⟩) (some ⟨k', 0, none⟩) S'.l.length S'.n S' w1 hm')
  have HFD1 : Hid (flB id S S' = true → flD id S S' = sxE ∧ flZ id S S' = (3, (sxZ S').1, true)) := hid (fun h => ⟨if_pos h, if_pos h⟩)
  have HFD2 : Hid (flB id S S' = false → flD id S S' = S' ∧ flZ id S S' = (0, [], false)) := hid (fun h => ⟨if_neg (by rw [h]; simp), if_neg (by rw [h]; simp)⟩)
  have HX := hid B0
  have HR := hid R0
  have HF := hid F0
  have HB0 := hid b0
  have hFl : w.heap.size + 1 + 1 < W.heap.size := F0.lt
  have q0 := B0.c0
  have q1 := B0.c1
  have q2 := B0.c2
  have q3 := B0.c3
  have q4 := B0.c4
  clear h h' b0 B0 R0 F0
  cases hr : rpB id S S' with
  | true =>
    rw [hr] at HO
    cases hmt : mtB S' with
    | true =>
      obtain ⟨e1, e2⟩ := HFD2.out (by unfold flB; rw [hr, hmt]; rfl)
      rw [e1, e2]
      rw [hmt] at HEQ
      clear e1 e2 HFD1 HFD2 hr hmt HPT
      go_enter Tryz.func7, Tryz.ntmps7
      go_wp2_with fail
      try rw [hW]
      clear hW
      refine HCP.out.mono ?_
      rintro e w1 ⟨a, ca, x, dx, a', ca', x', dx', m2, rfl, s1, s2, b1⟩
      obtain ⟨w1b, hw1b⟩ : ∃ w1b, w1.alloc (.cells #[.int .i64 id, .slice a S.l.length ca, .slice x S.n dx, .slice a' S'.l.length ca', .slice x' S'.n dx'] 38) = w1b := ⟨_, rfl⟩
      have b1b : Below w1.heap.size w1 w1b := by rw [← hw1b]; exact (Below.refl _ _).alloc (Nat.le_refl _) _
      have O1 : Bx5 w1b w1.heap.size (.int .i64 id) (.slice a S.l.length ca) (.slice x S.n dx) (.slice a' S'.l.length ca') (.slice x' S'.n dx') := by rw [← hw1b]; exact Bx5.new _ _ _ _ _ _ _
      have bb := keepS b1 b1b
      have HBB := hid bb
      have HX1 := hid (HX.out.below bb HX.out.lt)
      have HR1 := hid (HR.out.below bb HR.out.lt)
      have HF1 := hid (HF.out.below bb HF.out.lt)
      have HOB := hid O1
      have HS1 := hid (s1.below b1b)
      have HS2 := hid (s2.below b1b)
      have hz1 : W.heap.size ≤ w1.heap.size := b1.size
      have hz1b : w1.heap.size < w1b.heap.size := O1.lt
      have HM2 : Hid (W.heap.size ≤ m2 ∧ m2 ≤ w1.heap.size) := hid ⟨s1.hl.1, s2.hl.1⟩
      clear q0 q1 q2 q3 q4
      have p0 := HX1.out.c0
      have p1 := HX1.out.c1
      have p2 := HX1.out.c2
      have p3 := HX1.out.c3
      have p4 := HX1.out.c4
      clear s1 s2 b1 b1b O1 bb HX HCP
      go_wp2_with fail
      try rw [hw1b]
      clear hw1b p0 p1 p2 p3 p4
      refine (HO.out w1b HBB.out).mono ?_
      rintro e w2 ⟨rfl, b2⟩
      have X2 := HX1.out.below b2 HX1.out.lt
      have p0 := X2.c0
      have p1 := X2.c1
      have p2 := X2.c2
      have p3 := X2.c3
      have p4 := X2.c4
      have HB2 := hid b2
      clear X2 b2
      go_wp2_with fail
      clear p0 p1 p2 p3 p4
      refine (HEQ.out w2).mono ?_
      rintro e w3 ⟨rfl, b3⟩
      have hB3 := keepS HB2.out b3
      clear b3
      have HB3 := hid hB3
      have X3 := HX1.out.below hB3 HX1.out.lt
      have R3 := HR1.out.below hB3 HR1.out.lt
      have F3 := HF1.out.below hB3 HF1.out.lt
      have O3 := HOB.out.below hB3 HOB.out.lt
      have hz3 : w1b.heap.size ≤ w3.heap.size := hB3.size
      have r0 := R3.c0
      have r1 := R3.c1
      have r2 := R3.c2
      have r3 := R3.c3
      have r4 := R3.c4
      have o0 := O3.c0
      have o1 := O3.c1
      have o2 := O3.c2
      have o3 := O3.c3
      have o4 := O3.c4
      have rf := R3.f
      have f0 := F3.c0
      have f1 := F3.c1
      have ff := F3.f
      have HS13 := hid (HS1.out.below hB3)
      have HS23 := hid (HS2.out.below hB3)
      have HL3 := hid ((HB0.out.trans (HBB.out.mono HB0.out.size)).trans (hB3.mono (Nat.le_trans HB0.out.size HBB.out.size)))
      clear X3 R3 F3 O3 hB3
      go_wp2_with fail
      refine bodyPost_ret (v := .tuple #[.agg #[.int .i64 id, .slice a S.l.length ca, .slice x S.n dx, .slice a' S'.l.length ca', .slice x' S'.n dx'], .agg #[.int .i64 0, .slice none 0 0], .bool false]) (by simp [results, Tryz.results7, go_sem, r0, r1, r2, r3, r4, f0, f1]) rfl ?_
      have hm2 := HM2.out
      refine ⟨a, ca, x, dx, a', ca', x', dx', m2, w1.heap.size, 0, .slice none 0 0, [], false, rfl, ?_, ?_, rfl, World.ownsRow_nil _ _ _ _, ?_⟩
      · refine SOw.wide (lo := W.heap.size) (hi := m2) ?_ (by omega) (Nat.le_refl _) (by simp [World.setCell]; omega)
        repeat (refine SOw.set ?_ _ _ (.inl (by simp; omega)))
        exact HS13.out
      · repeat (refine SOw.set ?_ _ _ (.inl (by simp; omega)))
        exact HS23.out
      · repeat (refine Below.setCell ?_ (by simp; try omega) _)
        exact HL3.out
    | false =>
      obtain ⟨e1, e2⟩ := HFD1.out (by unfold flB; rw [hr, hmt]; rfl)
      rw [e1, e2]
      rw [hmt] at HEQ
      clear e1 e2 HFD1 HFD2 hr hmt
      go_enter Tryz.func7, Tryz.ntmps7
      go_wp2_with fail
      try rw [hW]
      clear hW
      refine HCP.out.mono ?_
      rintro e w1 ⟨a, ca, x, dx, a', ca', x', dx', m2, rfl, s1, s2, b1⟩
      obtain ⟨w1b, hw1b⟩ : ∃ w1b, w1.alloc (.cells #[.int .i64 id, .slice a S.l.length ca, .slice x S.n dx, .slice a' S'.l.length ca', .slice x' S'.n dx'] 38) = w1b := ⟨_, rfl⟩
      have b1b : Below w1.heap.size w1 w1b := by rw [← hw1b]; exact (Below.refl _ _).alloc (Nat.le_refl _) _
      have O1 : Bx5 w1b w1.heap.size (.int .i64 id) (.slice a S.l.length ca) (.slice x S.n dx) (.slice a' S'.l.length ca') (.slice x' S'.n dx') := by rw [← hw1b]; exact Bx5.new _ _ _ _ _ _ _
      have bb := keepS b1 b1b
      have HBB := hid bb
      have HX1 := hid (HX.out.below bb HX.out.lt)
      have HR1 := hid (HR.out.below bb HR.out.lt)
      have HF1 := hid (HF.out.below bb HF.out.lt)
      have HOB := hid O1
      have HS1 := hid (s1.below b1b)
      have HS2 := hid (s2.below b1b)
      have hz1 : W.heap.size ≤ w1.heap.size := b1.size
      have hz1b : w1.heap.size < w1b.heap.size := O1.lt
      have HM2 : Hid (W.heap.size ≤ m2 ∧ m2 ≤ w1.heap.size) := hid ⟨s1.hl.1, s2.hl.1⟩
      clear q0 q1 q2 q3 q4
      have p0 := HX1.out.c0
      have p1 := HX1.out.c1
      have p2 := HX1.out.c2
      have p3 := HX1.out.c3
      have p4 := HX1.out.c4
      clear s1 s2 b1 b1b O1 bb HX HCP
      go_wp2_with fail
      try rw [hw1b]
      clear hw1b p0 p1 p2 p3 p4
      refine (HO.out w1b HBB.out).mono ?_
      rintro e w2 ⟨rfl, b2⟩
      have X2 := HX1.out.below b2 HX1.out.lt
      have p0 := X2.c0
      have p1 := X2.c1
      have p2 := X2.c2
      have p3 := X2.c3
      have p4 := X2.c4
      have HB2 := hid b2
      clear X2 b2
      go_wp2_with fail
      clear p0 p1 p2 p3 p4
      refine (HEQ.out w2).mono ?_
      rintro e w3 ⟨rfl, b3⟩
      have hB3 := keepS HB2.out b3
      clear b3
      have HB3 := hid hB3
      have X3 := HX1.out.below hB3 HX1.out.lt
      have R3 := HR1.out.below hB3 HR1.out.lt
      have F3 := HF1.out.below hB3 HF1.out.lt
      have O3 := HOB.out.below hB3 HOB.out.lt
      have hz3 : w1b.heap.size ≤ w3.heap.size := hB3.size
      have p0 := X3.c0
      have p1 := X3.c1
      have p2 := X3.c2
      have p3 := X3.c3
      have p4 := X3.c4
      have hBW3 : Below W.heap.size W w3 := HBB.out.trans (hB3.mono HBB.out.size)
      clear X3 R3 F3 O3 hB3
      go_wp2_with fail
      refine (HPT.out w3 hBW3).mono ?_
      rintro e w4 ⟨v, zs, kk, rfl, hz, ho, b4⟩
      have hB4 := keepS HB3.out b4
      have R4 := HR1.out.below hB4 HR1.out.lt
      have F4 := HF1.out.below hB4 HF1.out.lt
      have O4 := HOB.out.below hB4 HOB.out.lt
      obtain ⟨va, vc, rfl, _⟩ := ho.any
      have HO4 := hid ho
      have HZ : Hid ((sxZ S').1 = zs) := hid (by rw [hz])
      clear p0 p1 p2 p3 p4
      have r0 := R4.c0
      have r1 := R4.c1
      have r2 := R4.c2
      have r3 := R4.c3
      have r4 := R4.c4
      have o0 := O4.c0
      have o1 := O4.c1
      have o2 := O4.c2
      have o3 := O4.c3
      have o4 := O4.c4
      have rf := R4.f
      have of := O4.f
      have f0 := F4.c0
      have f1 := F4.c1
      have ff := F4.f
      have HS14 := hid (HS1.out.below hB4)
      have hz4 : w3.heap.size ≤ w4.heap.size := b4.size
      have HL4 := hid ((HB0.out.trans (HBB.out.mono HB0.out.size)).trans (hB4.mono (Nat.le_trans HB0.out.size HBB.out.size)))
      clear R4 F4 O4 hB4 b4 hz ho
      go_wp2_with fail
      refine bodyPost_ret (v := .tuple #[.agg #[.int .i64 id, .slice a S.l.length ca, .slice x S.n dx, .slice none 0 0, .slice none 0 0], .agg #[.int .i64 3, .slice va zs.length vc], .bool true]) (by simp [results, Tryz.results7, go_sem, r0, r1, r2, r3, r4, f0, f1]) rfl ?_
      have hm2 := HM2.out
      refine ⟨a, ca, x, dx, none, 0, none, 0, m2, w1.heap.size, 3, .slice va zs.length vc, zs, true, rfl, ?_, SOw.mt _ _ rfl rfl _ _ ⟨hm2.2, by simp [World.setCell]; omega⟩ _ _ _, by rw [HZ.out], ?_, ?_⟩
      · refine SOw.wide (lo := W.heap.size) (hi := m2) ?_ (by omega) (Nat.le_refl _) (by simp [World.setCell]; omega)
        repeat (refine SOw.set ?_ _ _ (by simp; omega))
        exact HS14.out
      · refine Own.weak (B := w3.heap.size) ?_ (by omega)
        refine own_at5 HO4.out fun q hq => ?_
        have h1 := (World.ownsRow.lt HO4.out q hq).1
        repeat (rw [Below.heap_setCell _ _ _ _ (by simp; omega)])
      · repeat (refine Below.setCell ?_ (by simp; try omega) _)
        exact HL4.out
  | false =>
    rw [hr] at HO
    obtain ⟨e1, e2⟩ := HFD2.out (by unfold flB; rw [hr]; rfl)
    rw [e1, e2]
    clear e1 e2 HFD1 HFD2 hr HPT HEQ
    go_enter Tryz.func7, Tryz.ntmps7
    go_wp2_with fail
    try rw [hW]
    clear hW
    refine HCP.out.mono ?_
    rintro e w1 ⟨a, ca, x, dx, a', ca', x', dx', m2, rfl, s1, s2, b1⟩
    obtain ⟨w1b, hw1b⟩ : ∃ w1b, w1.alloc (.cells #[.int .i64 id, .slice a S.l.length ca, .slice x S.n dx, .slice a' S'.l.length ca', .slice x' S'.n dx'] 38) = w1b := ⟨_, rfl⟩
    have b1b : Below w1.heap.size w1 w1b := by rw [← hw1b]; exact (Below.refl _ _).alloc (Nat.le_refl _) _
    have O1 : Bx5 w1b w1.heap.size (.int .i64 id) (.slice a S.l.length ca) (.slice x S.n dx) (.slice a' S'.l.length ca') (.slice x' S'.n dx') := by rw [← hw1b]; exact Bx5.new _ _ _ _ _ _ _
    have bb := keepS b1 b1b
    have HBB := hid bb
    have HX1 := hid (HX.out.below bb HX.out.lt)
    have HR1 := hid (HR.out.below bb HR.out.lt)
    have HF1 := hid (HF.out.below bb HF.out.lt)
    have HOB := hid O1
    have HS1 := hid (s1.below b1b)
    have HS2 := hid (s2.below b1b)
    have hz1 : W.heap.size ≤ w1.heap.size := b1.size
    have hz1b : w1.heap.size < w1b.heap.size := O1.lt
    have HM2 : Hid (W.heap.size ≤ m2 ∧ m2 ≤ w1.heap.size) := hid ⟨s1.hl.1, s2.hl.1⟩
    clear q0 q1 q2 q3 q4
    have p0 := HX1.out.c0
    have p1 := HX1.out.c1
    have p2 := HX1.out.c2
    have p3 := HX1.out.c3
    have p4 := HX1.out.c4
    clear s1 s2 b1 b1b O1 bb HX HCP
    go_wp2_with fail
    try rw [hw1b]
    clear hw1b p0 p1 p2 p3 p4
    refine (HO.out w1b HBB.out).mono ?_
    rintro e w3 ⟨rfl, hB3⟩
    have HB3 := hid hB3
    have X3 := HX1.out.below hB3 HX1.out.lt
    have R3 := HR1.out.below hB3 HR1.out.lt
    have F3 := HF1.out.below hB3 HF1.out.lt
    have O3 := HOB.out.below hB3 HOB.out.lt
    have hz3 : w1b.heap.size ≤ w3.heap.size := hB3.size
    have r0 := R3.c0
    have r1 := R3.c1
    have r2 := R3.c2
    have r3 := R3.c3
    have r4 := R3.c4
    have o0 := O3.c0
    have o1 := O3.c1
    have o2 := O3.c2
    have o3 := O3.c3
    have o4 := O3.c4
    have rf := R3.f
    have f0 := F3.c0
    have f1 := F3.c1
    have ff := F3.f
    have HS13 := hid (HS1.out.below hB3)
    have HS23 := hid (HS2.out.below hB3)
    have HL3 := hid ((HB0.out.trans (HBB.out.mono HB0.out.size)).trans (hB3.mono (Nat.le_trans HB0.out.size HBB.out.size)))
    clear X3 R3 F3 O3 hB3
    go_wp2_with fail
    refine bodyPost_ret (v := .tuple #[.agg #[.int .i64 id, .slice a S.l.length ca, .slice x S.n dx, .slice a' S'.l.length ca', .slice x' S'.n dx'], .agg #[.int .i64 0, .slice none 0 0], .bool false]) (by simp [results, Tryz.results7, go_sem, r0, r1, r2, r3, r4, f0, f1]) rfl ?_
    have hm2 := HM2.out
    refine ⟨a, ca, x, dx, a', ca', x', dx', m2, w1.heap.size, 0, .slice none 0 0, [], false, rfl, ?_, ?_, rfl, World.ownsRow_nil _ _ _ _, ?_⟩
    · refine SOw.wide (lo := W.heap.size) (hi := m2) ?_ (by omega) (Nat.le_refl _) (by simp [World.setCell]; omega)
      repeat (refine SOw.set ?_ _ _ (.inl (by simp; omega)))
      exact HS13.out
    · repeat (refine SOw.set ?_ _ _ (.inl (by simp; omega)))
      exact HS23.out
    · repeat (refine Below.setCell ?_ (by simp; try omega) _)
      exact HL3.out
end Go.Proofs.YtdenbicnckkdfaaGreat
