import Derived.Test.YtbimcammjohaoacAdd
namespace Go.Proofs.Ytbimcammjohaoac.fnExactAddDot
open Go.ChangeShapes Go.WideShapes Go.ChangeAt Go.RowKit Go.Maps
set_option linter.unusedVariables false
set_option linter.unusedSimpArgs false

theorem cutT {G T : Prop} (h : Hid T → G) (k : T) : G := h k
theorem call2 {P : Program} {ops : Array Oper} {Q : Exit → Act → World → Prop} {md : Region.Mode} {S : World → Prop} {i j : Nat} {d e : Option Tmp} {fuel : Nat} {listed : Array Bool} {a : Act} {w : World}
    (hd : ops[i]?.map (fun o => o.dst) = some d) (he : ops[j]?.map (fun o => o.dst) = some e) (hr : Region.ready md ops listed = [i, j])
    (h : ∀ o, ops[i]? = some o → o.dst = d → ∀ K' : Act → World → Prop, Shut (∀ a w, S w → (S w → wpAnyH P md ops Q S fuel (listed.setIfInBounds i true) a w) → K' a w) → if Region.wanted o (yielded ops a.tmps) = true then Oper.wp P o a w K' Q else K' (a.put o.dst undef) w)
    (h' : ∀ o, ops[j]? = some o → o.dst = e → ∀ K' : Act → World → Prop, Shut (∀ a w, S w → (S w → wpAnyH P md ops Q S fuel (listed.setIfInBounds j true) a w) → K' a w) → if Region.wanted o (yielded ops a.tmps) = true then Oper.wp P o a w K' Q else K' (a.put o.dst undef) w) :
    wpAnyH P md ops Q S (fuel + 1) listed a w := by
  obtain ⟨o, ho, hod⟩ := Option.map_eq_some_iff.1 hd
  obtain ⟨o', ho', hod'⟩ := Option.map_eq_some_iff.1 he
  exact wpAnyH_ready hr (by simp) (AllReadyH.cons ho (h o ho hod) (AllReadyH.cons ho' (h' o' ho' hod') AllReadyH.nil))

set_option maxRecDepth 100000 in
set_option maxHeartbeats 4000000 in
theorem walk (w : World) (a : Option Addr) (n c : Nat) (R F T : Nat → Int) (hn : n ≤ 9223372036854775807) (h : RSeg w a n R F T) (iR : I64 R) (iF : I64 F) (iT : I64 T) (r s : Int) (hr : (Lit.int .i64 r).wf = true) (hs : (Lit.int .i64 s).wf = true) :
    Calls Try.prog 5 #[.agg #[.slice a n c], .agg #[.int .i64 r, .int .i64 s]] w fun e w' => e = .returned (.bool true) ∧ Below w.heap.size w w' := by
  obtain ⟨W0, hW0⟩ : ∃ W0, (w.alloc (.cells #[.slice a n c] 37)).alloc (.cells #[.int .i64 r, .int .i64 s] 49) = W0 := ⟨_, rfl⟩
  have bW : Below w.heap.size w W0 := by rw [← hW0]; exact below2 _ _ _
  have xa : W0.cell? ⟨w.heap.size, 0, none⟩ = some (.slice a n c) := by rw [← hW0]; simp
  have xr : W0.cell? ⟨w.heap.size + 1, 0, none⟩ = some (.int .i64 r) := by rw [← hW0]; simp
  have xs : W0.cell? ⟨w.heap.size + 1, 1, none⟩ = some (.int .i64 s) := by rw [← hW0]; simp
  have zW : W0.heap.size = w.heap.size + 2 := by rw [← hW0]; simp
  clear hr hs
  go_enter Try.func5, Try.ntmps5
  go_wp2_with fail
  try rw [hW0]
  clear hW0
  refine (szContext a n c 1048576 _ hn (by omega) (by omega)).mono ?_
  rintro e w2 ⟨rfl, b1⟩
  have HB0 := hid bW
  clear bW
  have zy1 := b1.size
  have xa_1 := (b1.cell (p := ⟨w.heap.size, 0, none⟩) (show w.heap.size < W0.heap.size by omega)).trans xa
  have xr_1 := (b1.cell (p := ⟨w.heap.size + 1, 0, none⟩) (show w.heap.size + 1 < W0.heap.size by omega)).trans xr
  have xs_1 := (b1.cell (p := ⟨w.heap.size + 1, 1, none⟩) (show w.heap.size + 1 < W0.heap.size by omega)).trans xs
  have HB_1 := hid (keepS HB0.out b1)
  clear xa xr xs HB0 b1
  by_cases hl : n ≤ 1048576
  case neg =>
    rw [show szLeft 1048576 n = -1 from if_pos (by omega)]
    go_wp2_with fail
    go_ret
    exact ⟨rfl, HB_1.out⟩
  rw [show szLeft 1048576 n = 1048576 - n from if_neg (by omega)]
  have HH := hid h
  obtain ⟨Z, hZ⟩ : ∃ Z, unZ R F T n (fun _ => r) (fun _ => s) (fun _ => s) 1 = Z := ⟨_, rfl⟩
  obtain ⟨ok, hok⟩ : ∃ ok, unB R F T n (fun _ => r) (fun _ => s) (fun _ => s) 1 = ok := ⟨_, rfl⟩
  have hZl : Z.length ≤ 1000 := by rw [← hZ]; exact unZ_len R F T n _ _ _ 1
  have HZ := hid hZ
  have HOK := hid hok
  clear h hZ hok
  have pz0 : w.heap.size < w2.heap.size := by omega
  have pz1 : w.heap.size + 1 < w2.heap.size := by omega
  have pz2 : w.heap.size + 1 < w2.heap.size := by omega
  go_wp2_with fail
  apply cutT
  · intro key
    refine wp_region_held_drew (S := fun w' => Below w2.heap.size w2 w' ∧ w'.cell? ⟨w.heap.size, 0, none⟩ = some (.slice a n c) ∧ w'.cell? ⟨w.heap.size + 1, 0, none⟩ = some (.int .i64 r) ∧ w'.cell? ⟨w.heap.size + 1, 1, none⟩ = some (.int .i64 s)) (by kernel_rfl) ⟨(Below.refl _ _).drew, xa_1, xr_1, xs_1⟩ (fun hHeld => ?_)
    refine take1 (i := 0) (d := some 22) (v := ?_) (by kernel_rfl) (by kernel_rfl) (by kernel_rfl) (by kernel_rfl) (fun _ _ _ h => h) ?_ hHeld ?_
    rotate_left
    · (intro o ho; simp only [List.getElem?_toArray, List.getElem?_cons_succ, List.getElem?_cons_zero, Option.some.injEq] at ho; subst ho; refine Or.inl ⟨by rfl, ?_⟩; intro w hSw; (try dsimp only at hSw); go_simp; try with_reducible rfl)
    try simp only [Act.put, List.setIfInBounds_toArray, List.set_cons_zero, List.set_cons_succ]
    refine take1 (i := 2) (d := some 24) (v := ?_) (by kernel_rfl) (by kernel_rfl) (by kernel_rfl) (by kernel_rfl) (fun _ _ _ h => h) ?_ hHeld ?_
    rotate_left
    · (intro o ho; simp only [List.getElem?_toArray, List.getElem?_cons_succ, List.getElem?_cons_zero, Option.some.injEq] at ho; subst ho; refine Or.inl ⟨by rfl, ?_⟩; intro w hSw; (try dsimp only at hSw); go_simp; try with_reducible rfl)
    try simp only [Act.put, List.setIfInBounds_toArray, List.set_cons_zero, List.set_cons_succ]
    obtain ⟨p0, hq0⟩ : ∃ p0, w2.drew = p0 := ⟨_, rfl⟩
    rw [hq0] at hHeld ⊢
    clear hq0
    have hB0 := hHeld.1
    refine call2 (i := 1) (d := some 23) (j := 8) (e := some 6) (by kernel_rfl) (by kernel_rfl) (by kernel_rfl) ?_ ?_
    rotate_left
    · skip
      intro o ho hod K hK; simp only [List.getElem?_toArray, List.getElem?_cons_succ, List.getElem?_cons_zero, Option.some.injEq] at ho; subst ho
      go_simp
      obtain ⟨px, hqx⟩ : ∃ px, p0.alloc (.cells #[.slice none 0 0] 41) = px := ⟨_, rfl⟩
      have hxb : Below p0.heap.size p0 px := by rw [← hqx]; exact (Below.refl _ _).alloc (Nat.le_refl _) _
      have hxc : px.cell? ⟨p0.heap.size, 0, none⟩ = some (.slice none 0 0) := by rw [← hqx]; simp
      have hxf : px.frozen? ⟨p0.heap.size, 0, none⟩ = false := by rw [← hqx]; simp
      have hxz : px.heap.size = p0.heap.size + 1 := by rw [← hqx]; simp
      obtain ⟨A6, hA6⟩ : ∃ A6, p0.heap.size = A6 := ⟨_, rfl⟩
      rw [hA6] at hxc hxf hxz ⊢
      rw [hqx]
      clear hqx
      have hBx := keepS hB0 hxb
      have hA0 : w2.heap.size ≤ A6 := by have := hB0.size; omega
      have hA6a : p0.heap.size ≤ A6 := by omega
      have hA6b : A6 ≤ p0.heap.size := by omega
      have hxbk := hid hxb
      clear hxb hA6
      refine hK.out _ _ ⟨hBx, (hBx.cell (p := ⟨w.heap.size, 0, none⟩) pz0).trans xa_1, (hBx.cell (p := ⟨w.heap.size + 1, 0, none⟩) pz1).trans xr_1, (hBx.cell (p := ⟨w.heap.size + 1, 1, none⟩) pz2).trans xs_1⟩ (fun hHeld => ?_)
      clear hK K
      try simp only [Act.put, List.setIfInBounds_toArray, List.set_cons_zero, List.set_cons_succ]
      refine call1 (i := 1) (d := some 23) (by kernel_rfl) (by kernel_rfl) ?_
      intro o ho hod K hK; simp only [List.getElem?_toArray, List.getElem?_cons_succ, List.getElem?_cons_zero, Option.some.injEq] at ho; subst ho
      go_simp
      refine (toContext a n c R F T _ hl (HH.out.below (keepS HB_1.out hBx))).mono ?_
      rintro e p3 ⟨pg3, ph3, ph3', rfl, ps3, pb3⟩
      have zz0 := pb3.size
      replace hxc := (pb3.cell (p := ⟨A6, 0, none⟩) (show A6 < px.heap.size by omega)).trans hxc
      replace hxf := (pb3.frozen (p := ⟨A6, 0, none⟩) (show A6 < px.heap.size by omega)).trans hxf
      have hC0 := keepS hBx pb3
      refine hK.out _ _ ⟨hC0, (hC0.cell (p := ⟨w.heap.size, 0, none⟩) pz0).trans xa_1, (hC0.cell (p := ⟨w.heap.size + 1, 0, none⟩) pz1).trans xr_1, (hC0.cell (p := ⟨w.heap.size + 1, 1, none⟩) pz2).trans xs_1⟩ (fun hHeld => ?_)
      clear hK K
      try simp only [Act.put, List.setIfInBounds_toArray, List.set_cons_zero, List.set_cons_succ]
      refine call1 (i := 3) (d := some 25) (by kernel_rfl) (by kernel_rfl) ?_
      intro o ho hod K hK; simp only [List.getElem?_toArray, List.getElem?_cons_succ, List.getElem?_cons_zero, Option.some.injEq] at ho; subst ho
      go_simp
      refine (toDotL r s _).mono ?_
      rintro e p4 ⟨rfl, pb4⟩
      have zz1 := pb4.size
      replace ps3 := ps3.below pb4
      replace hxc := (pb4.cell (p := ⟨A6, 0, none⟩) (show A6 < p3.heap.size by omega)).trans hxc
      replace hxf := (pb4.frozen (p := ⟨A6, 0, none⟩) (show A6 < p3.heap.size by omega)).trans hxf
      have hC1 := keepS hC0 pb4
      refine hK.out _ _ ⟨hC1, (hC1.cell (p := ⟨w.heap.size, 0, none⟩) pz0).trans xa_1, (hC1.cell (p := ⟨w.heap.size + 1, 0, none⟩) pz1).trans xr_1, (hC1.cell (p := ⟨w.heap.size + 1, 1, none⟩) pz2).trans xs_1⟩ (fun hHeld => ?_)
      clear hK K
      try simp only [Act.put, List.setIfInBounds_toArray, List.set_cons_zero, List.set_cons_succ]
      refine call1 (i := 4) (d := some 26) (by kernel_rfl) (by kernel_rfl) ?_
      intro o ho hod K hK; simp only [List.getElem?_toArray, List.getElem?_cons_succ, List.getElem?_cons_zero, Option.some.injEq] at ho; subst ho
      go_simp
      have hBn := hC1
      refine (specAd pg3 0 n n R F T r s _ hl ps3).mono ?_
      rintro e p5 ⟨pv, rfl, po5, pb5⟩
      rw [HZ.out] at po5
      rw [HOK.out]
      obtain ⟨py, pm, pc, pe⟩ := row_form po5
      subst pe
      have zz2 := pb5.size
      replace hxc := (pb5.cell (p := ⟨A6, 0, none⟩) (show A6 < p4.heap.size by omega)).trans hxc
      replace hxf := (pb5.frozen (p := ⟨A6, 0, none⟩) (show A6 < p4.heap.size by omega)).trans hxf
      have hC2 := keepS hC1 pb5
      refine hK.out _ _ ⟨hC2, (hC2.cell (p := ⟨w.heap.size, 0, none⟩) pz0).trans xa_1, (hC2.cell (p := ⟨w.heap.size + 1, 0, none⟩) pz1).trans xr_1, (hC2.cell (p := ⟨w.heap.size + 1, 1, none⟩) pz2).trans xs_1⟩ (fun hHeld => ?_)
      clear hK K
      try simp only [Act.put, List.setIfInBounds_toArray, List.set_cons_zero, List.set_cons_succ]
      refine take1 (i := 5) (d := some 21) (v := ?_) (by kernel_rfl) (by kernel_rfl) (by kernel_rfl) (by kernel_rfl) (fun _ _ _ h => h) ?_ hHeld ?_
      rotate_left
      · (intro o ho; simp only [List.getElem?_toArray, List.getElem?_cons_succ, List.getElem?_cons_zero, Option.some.injEq] at ho; subst ho; refine Or.inl ⟨by rfl, ?_⟩; intro w hSw; (try dsimp only at hSw); go_simp; try with_reducible rfl)
      try simp only [Act.put, List.setIfInBounds_toArray, List.set_cons_zero, List.set_cons_succ]
      refine take1 (i := 6) (d := some 27) (v := ?_) (by kernel_rfl) (by kernel_rfl) (by kernel_rfl) (by kernel_rfl) (fun _ _ _ h => h) ?_ hHeld ?_
      rotate_left
      · (intro o ho; simp only [List.getElem?_toArray, List.getElem?_cons_succ, List.getElem?_cons_zero, Option.some.injEq] at ho; subst ho; refine Or.inl ⟨by rfl, ?_⟩; intro w hSw; (try dsimp only at hSw); go_simp; try with_reducible rfl)
      try simp only [Act.put, List.setIfInBounds_toArray, List.set_cons_zero, List.set_cons_succ]
      refine take1 (i := 7) (d := some 28) (v := ?_) (by kernel_rfl) (by kernel_rfl) (by kernel_rfl) (by kernel_rfl) (fun _ _ _ h => h) ?_ hHeld ?_
      rotate_left
      · (intro o ho; simp only [List.getElem?_toArray, List.getElem?_cons_succ, List.getElem?_cons_zero, Option.some.injEq] at ho; subst ho; refine Or.inl ⟨by rfl, ?_⟩; intro w hSw; (try dsimp only at hSw); go_simp; try with_reducible rfl)
      try simp only [Act.put, List.setIfInBounds_toArray, List.set_cons_zero, List.set_cons_succ]
      refine call1 (i := 9) (d := none) (by kernel_rfl) (by kernel_rfl) ?_
      intro o ho hod K hK; simp only [List.getElem?_toArray, List.getElem?_cons_succ, List.getElem?_cons_zero, Option.some.injEq] at ho; subst ho
      go_simp
      obtain ⟨W6, hW6⟩ : ∃ W6, p5.setCell ⟨A6, 0, none⟩ (.slice py pm pc) = W6 := ⟨_, rfl⟩
      have hB7 : Below w2.heap.size w2 W6 := by rw [← hW6]; exact hC2.setCell (p := ⟨A6, 0, none⟩) hA0 _
      have hx7 : W6.cell? ⟨A6, 0, none⟩ = some (.slice py pm pc) := by rw [← hW6]; exact World.cell?_setCell_same _ _ _ hxc
      have hz7 : W6.heap.size = p5.heap.size := by rw [← hW6]; simp [World.setCell]
      have hF7 : FR W6 w2.heap.size (.slice py pm pc) Z := by rw [← hW6]; exact FR.weak (ownsRow_setCell_below po5 (a := ⟨A6, 0, none⟩) (by show A6 < _; omega) _) (by have := hBn.size; omega)
      have hN7 : ∀ g, (Value.slice py pm pc).ownBlock = some g → g ≠ A6 := fun g hg e => by have := (World.ownsRow.lt po5 g hg).1; omega
      rw [hW6]
      refine hK.out _ _ ⟨hB7, (hB7.cell (p := ⟨w.heap.size, 0, none⟩) pz0).trans xa_1, (hB7.cell (p := ⟨w.heap.size + 1, 0, none⟩) pz1).trans xr_1, (hB7.cell (p := ⟨w.heap.size + 1, 1, none⟩) pz2).trans xs_1⟩ (fun hHeld => ?_)
      clear hK K
      try simp only [Act.put, List.setIfInBounds_toArray, List.set_cons_zero, List.set_cons_succ]
      refine take1 (i := 10) (d := some 7) (v := ?_) (by kernel_rfl) (by kernel_rfl) (by kernel_rfl) (by kernel_rfl) (fun _ _ _ h => h) ?_ hHeld ?_
      rotate_left
      · (intro o ho; simp only [List.getElem?_toArray, List.getElem?_cons_succ, List.getElem?_cons_zero, Option.some.injEq] at ho; subst ho; refine Or.inl ⟨by rfl, ?_⟩; intro w hSw; (try dsimp only at hSw); go_simp; try with_reducible rfl)
      try simp only [Act.put, List.setIfInBounds_toArray, List.set_cons_zero, List.set_cons_succ]
      refine wpAnyH_done (by kernel_rfl) ?_ _
      have hA1 : A6 < W6.heap.size := by omega
      clear hHeld
      clear hW6
      clear hz7
      clear hxc
      clear hxf
      clear hxz
      clear hA6a
      clear hA6b
      clear po5
      clear ph3
      clear ph3'
      clear ps3
      revert A6 pg3 py pm pc W6
      exact key.out
    · skip
      intro o ho hod K hK; simp only [List.getElem?_toArray, List.getElem?_cons_succ, List.getElem?_cons_zero, Option.some.injEq] at ho; subst ho
      go_simp
      refine (toContext a n c R F T _ hl (HH.out.below (keepS HB_1.out hB0))).mono ?_
      rintro e p3 ⟨pg3, ph3, ph3', rfl, ps3, pb3⟩
      have zz0 := pb3.size
      have hC0 := keepS hB0 pb3
      refine hK.out _ _ ⟨hC0, (hC0.cell (p := ⟨w.heap.size, 0, none⟩) pz0).trans xa_1, (hC0.cell (p := ⟨w.heap.size + 1, 0, none⟩) pz1).trans xr_1, (hC0.cell (p := ⟨w.heap.size + 1, 1, none⟩) pz2).trans xs_1⟩ (fun hHeld => ?_)
      clear hK K
      try simp only [Act.put, List.setIfInBounds_toArray, List.set_cons_zero, List.set_cons_succ]
      refine call2 (i := 3) (d := some 25) (j := 8) (e := some 6) (by kernel_rfl) (by kernel_rfl) (by kernel_rfl) ?_ ?_
      rotate_left
      · skip
        intro o ho hod K hK; simp only [List.getElem?_toArray, List.getElem?_cons_succ, List.getElem?_cons_zero, Option.some.injEq] at ho; subst ho
        go_simp
        obtain ⟨px, hqx⟩ : ∃ px, p3.alloc (.cells #[.slice none 0 0] 41) = px := ⟨_, rfl⟩
        have hxb : Below p3.heap.size p3 px := by rw [← hqx]; exact (Below.refl _ _).alloc (Nat.le_refl _) _
        have hxc : px.cell? ⟨p3.heap.size, 0, none⟩ = some (.slice none 0 0) := by rw [← hqx]; simp
        have hxf : px.frozen? ⟨p3.heap.size, 0, none⟩ = false := by rw [← hqx]; simp
        have hxz : px.heap.size = p3.heap.size + 1 := by rw [← hqx]; simp
        obtain ⟨A6, hA6⟩ : ∃ A6, p3.heap.size = A6 := ⟨_, rfl⟩
        rw [hA6] at hxc hxf hxz ⊢
        rw [hqx]
        clear hqx
        have hBx := keepS hC0 hxb
        replace ps3 := ps3.below hxb
        have hA0 : w2.heap.size ≤ A6 := by have := hC0.size; omega
        have hA6a : p3.heap.size ≤ A6 := by omega
        have hA6b : A6 ≤ p3.heap.size := by omega
        have hxbk := hid hxb
        clear hxb hA6
        refine hK.out _ _ ⟨hBx, (hBx.cell (p := ⟨w.heap.size, 0, none⟩) pz0).trans xa_1, (hBx.cell (p := ⟨w.heap.size + 1, 0, none⟩) pz1).trans xr_1, (hBx.cell (p := ⟨w.heap.size + 1, 1, none⟩) pz2).trans xs_1⟩ (fun hHeld => ?_)
        clear hK K
        try simp only [Act.put, List.setIfInBounds_toArray, List.set_cons_zero, List.set_cons_succ]
        refine call1 (i := 3) (d := some 25) (by kernel_rfl) (by kernel_rfl) ?_
        intro o ho hod K hK; simp only [List.getElem?_toArray, List.getElem?_cons_succ, List.getElem?_cons_zero, Option.some.injEq] at ho; subst ho
        go_simp
        refine (toDotL r s _).mono ?_
        rintro e p4 ⟨rfl, pb4⟩
        have zz1 := pb4.size
        replace ps3 := ps3.below pb4
        replace hxc := (pb4.cell (p := ⟨A6, 0, none⟩) (show A6 < px.heap.size by omega)).trans hxc
        replace hxf := (pb4.frozen (p := ⟨A6, 0, none⟩) (show A6 < px.heap.size by omega)).trans hxf
        have hC1 := keepS hBx pb4
        refine hK.out _ _ ⟨hC1, (hC1.cell (p := ⟨w.heap.size, 0, none⟩) pz0).trans xa_1, (hC1.cell (p := ⟨w.heap.size + 1, 0, none⟩) pz1).trans xr_1, (hC1.cell (p := ⟨w.heap.size + 1, 1, none⟩) pz2).trans xs_1⟩ (fun hHeld => ?_)
        clear hK K
        try simp only [Act.put, List.setIfInBounds_toArray, List.set_cons_zero, List.set_cons_succ]
        refine call1 (i := 4) (d := some 26) (by kernel_rfl) (by kernel_rfl) ?_
        intro o ho hod K hK; simp only [List.getElem?_toArray, List.getElem?_cons_succ, List.getElem?_cons_zero, Option.some.injEq] at ho; subst ho
        go_simp
        have hBn := hC1
        refine (specAd pg3 0 n n R F T r s _ hl ps3).mono ?_
        rintro e p5 ⟨pv, rfl, po5, pb5⟩
        rw [HZ.out] at po5
        rw [HOK.out]
        obtain ⟨py, pm, pc, pe⟩ := row_form po5
        subst pe
        have zz2 := pb5.size
        replace hxc := (pb5.cell (p := ⟨A6, 0, none⟩) (show A6 < p4.heap.size by omega)).trans hxc
        replace hxf := (pb5.frozen (p := ⟨A6, 0, none⟩) (show A6 < p4.heap.size by omega)).trans hxf
        have hC2 := keepS hC1 pb5
        refine hK.out _ _ ⟨hC2, (hC2.cell (p := ⟨w.heap.size, 0, none⟩) pz0).trans xa_1, (hC2.cell (p := ⟨w.heap.size + 1, 0, none⟩) pz1).trans xr_1, (hC2.cell (p := ⟨w.heap.size + 1, 1, none⟩) pz2).trans xs_1⟩ (fun hHeld => ?_)
        clear hK K
        try simp only [Act.put, List.setIfInBounds_toArray, List.set_cons_zero, List.set_cons_succ]
        refine take1 (i := 5) (d := some 21) (v := ?_) (by kernel_rfl) (by kernel_rfl) (by kernel_rfl) (by kernel_rfl) (fun _ _ _ h => h) ?_ hHeld ?_
        rotate_left
        · (intro o ho; simp only [List.getElem?_toArray, List.getElem?_cons_succ, List.getElem?_cons_zero, Option.some.injEq] at ho; subst ho; refine Or.inl ⟨by rfl, ?_⟩; intro w hSw; (try dsimp only at hSw); go_simp; try with_reducible rfl)
        try simp only [Act.put, List.setIfInBounds_toArray, List.set_cons_zero, List.set_cons_succ]
        refine take1 (i := 6) (d := some 27) (v := ?_) (by kernel_rfl) (by kernel_rfl) (by kernel_rfl) (by kernel_rfl) (fun _ _ _ h => h) ?_ hHeld ?_
        rotate_left
        · (intro o ho; simp only [List.getElem?_toArray, List.getElem?_cons_succ, List.getElem?_cons_zero, Option.some.injEq] at ho; subst ho; refine Or.inl ⟨by rfl, ?_⟩; intro w hSw; (try dsimp only at hSw); go_simp; try with_reducible rfl)
        try simp only [Act.put, List.setIfInBounds_toArray, List.set_cons_zero, List.set_cons_succ]
        refine take1 (i := 7) (d := some 28) (v := ?_) (by kernel_rfl) (by kernel_rfl) (by kernel_rfl) (by kernel_rfl) (fun _ _ _ h => h) ?_ hHeld ?_
        rotate_left
        · (intro o ho; simp only [List.getElem?_toArray, List.getElem?_cons_succ, List.getElem?_cons_zero, Option.some.injEq] at ho; subst ho; refine Or.inl ⟨by rfl, ?_⟩; intro w hSw; (try dsimp only at hSw); go_simp; try with_reducible rfl)
        try simp only [Act.put, List.setIfInBounds_toArray, List.set_cons_zero, List.set_cons_succ]
        refine call1 (i := 9) (d := none) (by kernel_rfl) (by kernel_rfl) ?_
        intro o ho hod K hK; simp only [List.getElem?_toArray, List.getElem?_cons_succ, List.getElem?_cons_zero, Option.some.injEq] at ho; subst ho
        go_simp
        obtain ⟨W6, hW6⟩ : ∃ W6, p5.setCell ⟨A6, 0, none⟩ (.slice py pm pc) = W6 := ⟨_, rfl⟩
        have hB7 : Below w2.heap.size w2 W6 := by rw [← hW6]; exact hC2.setCell (p := ⟨A6, 0, none⟩) hA0 _
        have hx7 : W6.cell? ⟨A6, 0, none⟩ = some (.slice py pm pc) := by rw [← hW6]; exact World.cell?_setCell_same _ _ _ hxc
        have hz7 : W6.heap.size = p5.heap.size := by rw [← hW6]; simp [World.setCell]
        have hF7 : FR W6 w2.heap.size (.slice py pm pc) Z := by rw [← hW6]; exact FR.weak (ownsRow_setCell_below po5 (a := ⟨A6, 0, none⟩) (by show A6 < _; omega) _) (by have := hBn.size; omega)
        have hN7 : ∀ g, (Value.slice py pm pc).ownBlock = some g → g ≠ A6 := fun g hg e => by have := (World.ownsRow.lt po5 g hg).1; omega
        rw [hW6]
        refine hK.out _ _ ⟨hB7, (hB7.cell (p := ⟨w.heap.size, 0, none⟩) pz0).trans xa_1, (hB7.cell (p := ⟨w.heap.size + 1, 0, none⟩) pz1).trans xr_1, (hB7.cell (p := ⟨w.heap.size + 1, 1, none⟩) pz2).trans xs_1⟩ (fun hHeld => ?_)
        clear hK K
        try simp only [Act.put, List.setIfInBounds_toArray, List.set_cons_zero, List.set_cons_succ]
        refine take1 (i := 10) (d := some 7) (v := ?_) (by kernel_rfl) (by kernel_rfl) (by kernel_rfl) (by kernel_rfl) (fun _ _ _ h => h) ?_ hHeld ?_
        rotate_left
        · (intro o ho; simp only [List.getElem?_toArray, List.getElem?_cons_succ, List.getElem?_cons_zero, Option.some.injEq] at ho; subst ho; refine Or.inl ⟨by rfl, ?_⟩; intro w hSw; (try dsimp only at hSw); go_simp; try with_reducible rfl)
        try simp only [Act.put, List.setIfInBounds_toArray, List.set_cons_zero, List.set_cons_succ]
        refine wpAnyH_done (by kernel_rfl) ?_ _
        have hA1 : A6 < W6.heap.size := by omega
        exact key.out A6 hA0 pg3 py pm pc W6 hB7 hx7 hF7 hN7 hA1
      · skip
        intro o ho hod K hK; simp only [List.getElem?_toArray, List.getElem?_cons_succ, List.getElem?_cons_zero, Option.some.injEq] at ho; subst ho
        go_simp
        refine (toDotL r s _).mono ?_
        rintro e p4 ⟨rfl, pb4⟩
        have zz1 := pb4.size
        replace ps3 := ps3.below pb4
        have hC1 := keepS hC0 pb4
        refine hK.out _ _ ⟨hC1, (hC1.cell (p := ⟨w.heap.size, 0, none⟩) pz0).trans xa_1, (hC1.cell (p := ⟨w.heap.size + 1, 0, none⟩) pz1).trans xr_1, (hC1.cell (p := ⟨w.heap.size + 1, 1, none⟩) pz2).trans xs_1⟩ (fun hHeld => ?_)
        clear hK K
        try simp only [Act.put, List.setIfInBounds_toArray, List.set_cons_zero, List.set_cons_succ]
        refine call2 (i := 4) (d := some 26) (j := 8) (e := some 6) (by kernel_rfl) (by kernel_rfl) (by kernel_rfl) ?_ ?_
        rotate_left
        · skip
          intro o ho hod K hK; simp only [List.getElem?_toArray, List.getElem?_cons_succ, List.getElem?_cons_zero, Option.some.injEq] at ho; subst ho
          go_simp
          obtain ⟨px, hqx⟩ : ∃ px, p4.alloc (.cells #[.slice none 0 0] 41) = px := ⟨_, rfl⟩
          have hxb : Below p4.heap.size p4 px := by rw [← hqx]; exact (Below.refl _ _).alloc (Nat.le_refl _) _
          have hxc : px.cell? ⟨p4.heap.size, 0, none⟩ = some (.slice none 0 0) := by rw [← hqx]; simp
          have hxf : px.frozen? ⟨p4.heap.size, 0, none⟩ = false := by rw [← hqx]; simp
          have hxz : px.heap.size = p4.heap.size + 1 := by rw [← hqx]; simp
          obtain ⟨A6, hA6⟩ : ∃ A6, p4.heap.size = A6 := ⟨_, rfl⟩
          rw [hA6] at hxc hxf hxz ⊢
          rw [hqx]
          clear hqx
          have hBx := keepS hC1 hxb
          replace ps3 := ps3.below hxb
          have hA0 : w2.heap.size ≤ A6 := by have := hC1.size; omega
          have hA6a : p4.heap.size ≤ A6 := by omega
          have hA6b : A6 ≤ p4.heap.size := by omega
          have hxbk := hid hxb
          clear hxb hA6
          refine hK.out _ _ ⟨hBx, (hBx.cell (p := ⟨w.heap.size, 0, none⟩) pz0).trans xa_1, (hBx.cell (p := ⟨w.heap.size + 1, 0, none⟩) pz1).trans xr_1, (hBx.cell (p := ⟨w.heap.size + 1, 1, none⟩) pz2).trans xs_1⟩ (fun hHeld => ?_)
          clear hK K
          try simp only [Act.put, List.setIfInBounds_toArray, List.set_cons_zero, List.set_cons_succ]
          refine call1 (i := 4) (d := some 26) (by kernel_rfl) (by kernel_rfl) ?_
          intro o ho hod K hK; simp only [List.getElem?_toArray, List.getElem?_cons_succ, List.getElem?_cons_zero, Option.some.injEq] at ho; subst ho
          go_simp
          have hBn := hBx
          refine (specAd pg3 0 n n R F T r s _ hl ps3).mono ?_
          rintro e p5 ⟨pv, rfl, po5, pb5⟩
          rw [HZ.out] at po5
          rw [HOK.out]
          obtain ⟨py, pm, pc, pe⟩ := row_form po5
          subst pe
          have zz2 := pb5.size
          replace hxc := (pb5.cell (p := ⟨A6, 0, none⟩) (show A6 < px.heap.size by omega)).trans hxc
          replace hxf := (pb5.frozen (p := ⟨A6, 0, none⟩) (show A6 < px.heap.size by omega)).trans hxf
          have hC2 := keepS hBx pb5
          refine hK.out _ _ ⟨hC2, (hC2.cell (p := ⟨w.heap.size, 0, none⟩) pz0).trans xa_1, (hC2.cell (p := ⟨w.heap.size + 1, 0, none⟩) pz1).trans xr_1, (hC2.cell (p := ⟨w.heap.size + 1, 1, none⟩) pz2).trans xs_1⟩ (fun hHeld => ?_)
          clear hK K
          try simp only [Act.put, List.setIfInBounds_toArray, List.set_cons_zero, List.set_cons_succ]
          refine take1 (i := 5) (d := some 21) (v := ?_) (by kernel_rfl) (by kernel_rfl) (by kernel_rfl) (by kernel_rfl) (fun _ _ _ h => h) ?_ hHeld ?_
          rotate_left
          · (intro o ho; simp only [List.getElem?_toArray, List.getElem?_cons_succ, List.getElem?_cons_zero, Option.some.injEq] at ho; subst ho; refine Or.inl ⟨by rfl, ?_⟩; intro w hSw; (try dsimp only at hSw); go_simp; try with_reducible rfl)
          try simp only [Act.put, List.setIfInBounds_toArray, List.set_cons_zero, List.set_cons_succ]
          refine take1 (i := 6) (d := some 27) (v := ?_) (by kernel_rfl) (by kernel_rfl) (by kernel_rfl) (by kernel_rfl) (fun _ _ _ h => h) ?_ hHeld ?_
          rotate_left
          · (intro o ho; simp only [List.getElem?_toArray, List.getElem?_cons_succ, List.getElem?_cons_zero, Option.some.injEq] at ho; subst ho; refine Or.inl ⟨by rfl, ?_⟩; intro w hSw; (try dsimp only at hSw); go_simp; try with_reducible rfl)
          try simp only [Act.put, List.setIfInBounds_toArray, List.set_cons_zero, List.set_cons_succ]
          refine take1 (i := 7) (d := some 28) (v := ?_) (by kernel_rfl) (by kernel_rfl) (by kernel_rfl) (by kernel_rfl) (fun _ _ _ h => h) ?_ hHeld ?_
          rotate_left
          · (intro o ho; simp only [List.getElem?_toArray, List.getElem?_cons_succ, List.getElem?_cons_zero, Option.some.injEq] at ho; subst ho; refine Or.inl ⟨by rfl, ?_⟩; intro w hSw; (try dsimp only at hSw); go_simp; try with_reducible rfl)
          try simp only [Act.put, List.setIfInBounds_toArray, List.set_cons_zero, List.set_cons_succ]
          refine call1 (i := 9) (d := none) (by kernel_rfl) (by kernel_rfl) ?_
          intro o ho hod K hK; simp only [List.getElem?_toArray, List.getElem?_cons_succ, List.getElem?_cons_zero, Option.some.injEq] at ho; subst ho
          go_simp
          obtain ⟨W6, hW6⟩ : ∃ W6, p5.setCell ⟨A6, 0, none⟩ (.slice py pm pc) = W6 := ⟨_, rfl⟩
          have hB7 : Below w2.heap.size w2 W6 := by rw [← hW6]; exact hC2.setCell (p := ⟨A6, 0, none⟩) hA0 _
          have hx7 : W6.cell? ⟨A6, 0, none⟩ = some (.slice py pm pc) := by rw [← hW6]; exact World.cell?_setCell_same _ _ _ hxc
          have hz7 : W6.heap.size = p5.heap.size := by rw [← hW6]; simp [World.setCell]
          have hF7 : FR W6 w2.heap.size (.slice py pm pc) Z := by rw [← hW6]; exact FR.weak (ownsRow_setCell_below po5 (a := ⟨A6, 0, none⟩) (by show A6 < _; omega) _) (by have := hBn.size; omega)
          have hN7 : ∀ g, (Value.slice py pm pc).ownBlock = some g → g ≠ A6 := fun g hg e => by have := (World.ownsRow.lt po5 g hg).1; omega
          rw [hW6]
          refine hK.out _ _ ⟨hB7, (hB7.cell (p := ⟨w.heap.size, 0, none⟩) pz0).trans xa_1, (hB7.cell (p := ⟨w.heap.size + 1, 0, none⟩) pz1).trans xr_1, (hB7.cell (p := ⟨w.heap.size + 1, 1, none⟩) pz2).trans xs_1⟩ (fun hHeld => ?_)
          clear hK K
          try simp only [Act.put, List.setIfInBounds_toArray, List.set_cons_zero, List.set_cons_succ]
          refine take1 (i := 10) (d := some 7) (v := ?_) (by kernel_rfl) (by kernel_rfl) (by kernel_rfl) (by kernel_rfl) (fun _ _ _ h => h) ?_ hHeld ?_
          rotate_left
          · (intro o ho; simp only [List.getElem?_toArray, List.getElem?_cons_succ, List.getElem?_cons_zero, Option.some.injEq] at ho; subst ho; refine Or.inl ⟨by rfl, ?_⟩; intro w hSw; (try dsimp only at hSw); go_simp; try with_reducible rfl)
          try simp only [Act.put, List.setIfInBounds_toArray, List.set_cons_zero, List.set_cons_succ]
          refine wpAnyH_done (by kernel_rfl) ?_ _
          have hA1 : A6 < W6.heap.size := by omega
          exact key.out A6 hA0 pg3 py pm pc W6 hB7 hx7 hF7 hN7 hA1
        · skip
          intro o ho hod K hK; simp only [List.getElem?_toArray, List.getElem?_cons_succ, List.getElem?_cons_zero, Option.some.injEq] at ho; subst ho
          go_simp
          have hBn := hC1
          refine (specAd pg3 0 n n R F T r s _ hl ps3).mono ?_
          rintro e p5 ⟨pv, rfl, po5, pb5⟩
          rw [HZ.out] at po5
          rw [HOK.out]
          obtain ⟨py, pm, pc, pe⟩ := row_form po5
          subst pe
          have zz2 := pb5.size
          have hC2 := keepS hC1 pb5
          refine hK.out _ _ ⟨hC2, (hC2.cell (p := ⟨w.heap.size, 0, none⟩) pz0).trans xa_1, (hC2.cell (p := ⟨w.heap.size + 1, 0, none⟩) pz1).trans xr_1, (hC2.cell (p := ⟨w.heap.size + 1, 1, none⟩) pz2).trans xs_1⟩ (fun hHeld => ?_)
          clear hK K
          try simp only [Act.put, List.setIfInBounds_toArray, List.set_cons_zero, List.set_cons_succ]
          refine take1 (i := 5) (d := some 21) (v := ?_) (by kernel_rfl) (by kernel_rfl) (by kernel_rfl) (by kernel_rfl) (fun _ _ _ h => h) ?_ hHeld ?_
          rotate_left
          · (intro o ho; simp only [List.getElem?_toArray, List.getElem?_cons_succ, List.getElem?_cons_zero, Option.some.injEq] at ho; subst ho; refine Or.inl ⟨by rfl, ?_⟩; intro w hSw; (try dsimp only at hSw); go_simp; try with_reducible rfl)
          try simp only [Act.put, List.setIfInBounds_toArray, List.set_cons_zero, List.set_cons_succ]
          refine take1 (i := 6) (d := some 27) (v := ?_) (by kernel_rfl) (by kernel_rfl) (by kernel_rfl) (by kernel_rfl) (fun _ _ _ h => h) ?_ hHeld ?_
          rotate_left
          · (intro o ho; simp only [List.getElem?_toArray, List.getElem?_cons_succ, List.getElem?_cons_zero, Option.some.injEq] at ho; subst ho; refine Or.inl ⟨by rfl, ?_⟩; intro w hSw; (try dsimp only at hSw); go_simp; try with_reducible rfl)
          try simp only [Act.put, List.setIfInBounds_toArray, List.set_cons_zero, List.set_cons_succ]
          refine take1 (i := 7) (d := some 28) (v := ?_) (by kernel_rfl) (by kernel_rfl) (by kernel_rfl) (by kernel_rfl) (fun _ _ _ h => h) ?_ hHeld ?_
          rotate_left
          · (intro o ho; simp only [List.getElem?_toArray, List.getElem?_cons_succ, List.getElem?_cons_zero, Option.some.injEq] at ho; subst ho; refine Or.inl ⟨by rfl, ?_⟩; intro w hSw; (try dsimp only at hSw); go_simp; try with_reducible rfl)
          try simp only [Act.put, List.setIfInBounds_toArray, List.set_cons_zero, List.set_cons_succ]
          refine call1 (i := 8) (d := some 6) (by kernel_rfl) (by kernel_rfl) ?_
          intro o ho hod K hK; simp only [List.getElem?_toArray, List.getElem?_cons_succ, List.getElem?_cons_zero, Option.some.injEq] at ho; subst ho
          go_simp
          obtain ⟨px, hqx⟩ : ∃ px, p5.alloc (.cells #[.slice none 0 0] 41) = px := ⟨_, rfl⟩
          have hxb : Below p5.heap.size p5 px := by rw [← hqx]; exact (Below.refl _ _).alloc (Nat.le_refl _) _
          have hxc : px.cell? ⟨p5.heap.size, 0, none⟩ = some (.slice none 0 0) := by rw [← hqx]; simp
          have hxf : px.frozen? ⟨p5.heap.size, 0, none⟩ = false := by rw [← hqx]; simp
          have hxz : px.heap.size = p5.heap.size + 1 := by rw [← hqx]; simp
          obtain ⟨A6, hA6⟩ : ∃ A6, p5.heap.size = A6 := ⟨_, rfl⟩
          rw [hA6] at hxc hxf hxz ⊢
          rw [hqx]
          clear hqx
          have hB6 := keepS hC2 hxb
          have hA0 : w2.heap.size ≤ A6 := by have := hC2.size; omega
          have hA6a : p5.heap.size ≤ A6 := by omega
          have hA6b : A6 ≤ p5.heap.size := by omega
          have hxbk := hid hxb
          clear hxb hA6
          refine hK.out _ _ ⟨hB6, (hB6.cell (p := ⟨w.heap.size, 0, none⟩) pz0).trans xa_1, (hB6.cell (p := ⟨w.heap.size + 1, 0, none⟩) pz1).trans xr_1, (hB6.cell (p := ⟨w.heap.size + 1, 1, none⟩) pz2).trans xs_1⟩ (fun hHeld => ?_)
          clear hK K
          try simp only [Act.put, List.setIfInBounds_toArray, List.set_cons_zero, List.set_cons_succ]
          refine call1 (i := 9) (d := none) (by kernel_rfl) (by kernel_rfl) ?_
          intro o ho hod K hK; simp only [List.getElem?_toArray, List.getElem?_cons_succ, List.getElem?_cons_zero, Option.some.injEq] at ho; subst ho
          go_simp
          obtain ⟨W6, hW6⟩ : ∃ W6, px.setCell ⟨A6, 0, none⟩ (.slice py pm pc) = W6 := ⟨_, rfl⟩
          have hB7 : Below w2.heap.size w2 W6 := by rw [← hW6]; exact hB6.setCell (p := ⟨A6, 0, none⟩) hA0 _
          have hx7 : W6.cell? ⟨A6, 0, none⟩ = some (.slice py pm pc) := by rw [← hW6]; exact World.cell?_setCell_same _ _ _ hxc
          have hz7 : W6.heap.size = px.heap.size := by rw [← hW6]; simp [World.setCell]
          have hF7 : FR W6 w2.heap.size (.slice py pm pc) Z := by rw [← hW6]; exact FR.weak (FR.below po5 (hxbk.out.setCell (p := ⟨A6, 0, none⟩) hA6a _)) (by have := hBn.size; omega)
          have hN7 : ∀ g, (Value.slice py pm pc).ownBlock = some g → g ≠ A6 := fun g hg e => by have := (World.ownsRow.lt po5 g hg).2; omega
          rw [hW6]
          refine hK.out _ _ ⟨hB7, (hB7.cell (p := ⟨w.heap.size, 0, none⟩) pz0).trans xa_1, (hB7.cell (p := ⟨w.heap.size + 1, 0, none⟩) pz1).trans xr_1, (hB7.cell (p := ⟨w.heap.size + 1, 1, none⟩) pz2).trans xs_1⟩ (fun hHeld => ?_)
          clear hK K
          try simp only [Act.put, List.setIfInBounds_toArray, List.set_cons_zero, List.set_cons_succ]
          refine take1 (i := 10) (d := some 7) (v := ?_) (by kernel_rfl) (by kernel_rfl) (by kernel_rfl) (by kernel_rfl) (fun _ _ _ h => h) ?_ hHeld ?_
          rotate_left
          · (intro o ho; simp only [List.getElem?_toArray, List.getElem?_cons_succ, List.getElem?_cons_zero, Option.some.injEq] at ho; subst ho; refine Or.inl ⟨by rfl, ?_⟩; intro w hSw; (try dsimp only at hSw); go_simp; try with_reducible rfl)
          try simp only [Act.put, List.setIfInBounds_toArray, List.set_cons_zero, List.set_cons_succ]
          refine wpAnyH_done (by kernel_rfl) ?_ _
          have hA1 : A6 < W6.heap.size := by omega
          exact key.out A6 hA0 pg3 py pm pc W6 hB7 hx7 hF7 hN7 hA1
  intro A6 hA0 pg3 py pm pc W6 hB7 hx7 hF7 hN7 hA1
  clear hN7
  have HF6 := hid hF7
  have HVw : Hid (∀ g, (Value.slice py pm pc).ownBlock = some g → g < W6.heap.size) := fun g hg => (World.ownsRow.lt hF7 g hg).2
  clear hF7
  have zy2 := hB7.size
  have xa_2 := (hB7.cell (p := ⟨w.heap.size, 0, none⟩) (show w.heap.size < w2.heap.size by omega)).trans xa_1
  have xr_2 := (hB7.cell (p := ⟨w.heap.size + 1, 0, none⟩) (show w.heap.size + 1 < w2.heap.size by omega)).trans xr_1
  have xs_2 := (hB7.cell (p := ⟨w.heap.size + 1, 1, none⟩) (show w.heap.size + 1 < w2.heap.size by omega)).trans xs_1
  have HB_2 := hid (keepS HB_1.out hB7)
  clear xa_1 xr_1 xs_1 HB_1 hB7
  have hbw := hx7
  clear hx7
  go_wp2_with fail
  refine (toContextO a n c R F T _ hl (HH.out.below HB_2.out)).mono ?_
  rintro e w7 ⟨g7, hg7, hg7', rfl, sg7, bg7, xsg7, og7⟩
  have HSx := hid sg7
  have HOx := hid og7
  clear sg7 og7
  have zy3 := bg7.size
  have xa_3 := (bg7.cell (p := ⟨w.heap.size, 0, none⟩) (show w.heap.size < W6.heap.size by omega)).trans xa_2
  have xr_3 := (bg7.cell (p := ⟨w.heap.size + 1, 0, none⟩) (show w.heap.size + 1 < W6.heap.size by omega)).trans xr_2
  have xs_3 := (bg7.cell (p := ⟨w.heap.size + 1, 1, none⟩) (show w.heap.size + 1 < W6.heap.size by omega)).trans xs_2
  have hbw_3 := (bg7.cell (p := ⟨A6, 0, none⟩) (show A6 < W6.heap.size by omega)).trans hbw
  have HF6_3 := hid (HF6.out.below bg7)
  have HB_3 := hid (keepS HB_2.out bg7)
  clear xa_2 xr_2 xs_2 hbw HF6 HB_2 bg7
  obtain ⟨W8, hW8⟩ : ∃ W8, w7.alloc (.cells #[.slice (some ⟨g7, 0, none⟩) n n] 41) = W8 := ⟨_, rfl⟩
  have bW8 : Below w7.heap.size w7 W8 := by rw [← hW8]; exact (Below.refl _ _).alloc (Nat.le_refl _) _
  have zW8 : W8.heap.size = w7.heap.size + 1 := by rw [← hW8]; simp
  have hbx : W8.cell? ⟨w7.heap.size, 0, none⟩ = some (.slice (some ⟨g7, 0, none⟩) n n) := by rw [← hW8]; simp
  have zy4 := bW8.size
  have xa_4 := (bW8.cell (p := ⟨w.heap.size, 0, none⟩) (show w.heap.size < w7.heap.size by omega)).trans xa_3
  have xr_4 := (bW8.cell (p := ⟨w.heap.size + 1, 0, none⟩) (show w.heap.size + 1 < w7.heap.size by omega)).trans xr_3
  have xs_4 := (bW8.cell (p := ⟨w.heap.size + 1, 1, none⟩) (show w.heap.size + 1 < w7.heap.size by omega)).trans xs_3
  have hbw_4 := (bW8.cell (p := ⟨A6, 0, none⟩) (show A6 < w7.heap.size by omega)).trans hbw_3
  have HSx_4 := hid (HSx.out.below bW8)
  have HF6_4 := hid (HF6_3.out.below bW8)
  have HOx_4 := hid (owns_below HOx.out bW8 (fun k hk => by simp [Value.ownBlock] at hk; omega))
  have HB_4 := hid (keepS HB_3.out bW8)
  clear xa_3 xr_3 xs_3 hbw_3 HSx HF6_3 HOx HB_3 bW8
  have qz0 : w.heap.size < W8.heap.size := by omega
  have qz1 : w.heap.size + 1 < W8.heap.size := by omega
  have qz2 : w.heap.size + 1 < W8.heap.size := by omega
  have qz3 : A6 < W8.heap.size := by omega
  have qz4 : w7.heap.size < W8.heap.size := by omega
  go_wp2_with fail
  try rw [hW8]
  clear hW8
  apply cutT
  · intro key
    refine wp_region_held_drew (S := fun w' => Below W8.heap.size W8 w' ∧ w'.cell? ⟨w.heap.size, 0, none⟩ = some (.slice a n c) ∧ w'.cell? ⟨w.heap.size + 1, 0, none⟩ = some (.int .i64 r) ∧ w'.cell? ⟨w.heap.size + 1, 1, none⟩ = some (.int .i64 s) ∧ w'.cell? ⟨A6, 0, none⟩ = some (.slice py pm pc) ∧ w'.cell? ⟨w7.heap.size, 0, none⟩ = some (.slice (some ⟨g7, 0, none⟩) n n)) (by kernel_rfl) ⟨(Below.refl _ _).drew, xa_4, xr_4, xs_4, hbw_4, hbx⟩ (fun hHeld => ?_)
    refine take1 (i := 0) (d := some 32) (v := ?_) (by kernel_rfl) (by kernel_rfl) (by kernel_rfl) (by kernel_rfl) (fun _ _ _ h => h) ?_ hHeld ?_
    rotate_left
    · (intro o ho; simp only [List.getElem?_toArray, List.getElem?_cons_succ, List.getElem?_cons_zero, Option.some.injEq] at ho; subst ho; refine Or.inl ⟨by rfl, ?_⟩; intro w hSw; (try dsimp only at hSw); go_simp; try with_reducible rfl)
    try simp only [Act.put, List.setIfInBounds_toArray, List.set_cons_zero, List.set_cons_succ]
    refine take1 (i := 1) (d := some 33) (v := ?_) (by kernel_rfl) (by kernel_rfl) (by kernel_rfl) (by kernel_rfl) (fun _ _ _ h => h) ?_ hHeld ?_
    rotate_left
    · (intro o ho; simp only [List.getElem?_toArray, List.getElem?_cons_succ, List.getElem?_cons_zero, Option.some.injEq] at ho; subst ho; refine Or.inl ⟨by rfl, ?_⟩; intro w hSw; (try dsimp only at hSw); go_simp; try with_reducible rfl)
    try simp only [Act.put, List.setIfInBounds_toArray, List.set_cons_zero, List.set_cons_succ]
    obtain ⟨q0, hq0⟩ : ∃ q0, W8.drew = q0 := ⟨_, rfl⟩
    rw [hq0] at hHeld ⊢
    clear hq0
    have hB0 := hHeld.1
    refine call2 (i := 2) (d := some 34) (j := 7) (e := some 9) (by kernel_rfl) (by kernel_rfl) (by kernel_rfl) ?_ ?_
    rotate_left
    · skip
      intro o ho hod K hK; simp only [List.getElem?_toArray, List.getElem?_cons_succ, List.getElem?_cons_zero, Option.some.injEq] at ho; subst ho
      go_simp
      obtain ⟨qx, hqx⟩ : ∃ qx, q0.alloc (.cells #[.slice none 0 0] 41) = qx := ⟨_, rfl⟩
      have hxb : Below q0.heap.size q0 qx := by rw [← hqx]; exact (Below.refl _ _).alloc (Nat.le_refl _) _
      have hxc : qx.cell? ⟨q0.heap.size, 0, none⟩ = some (.slice none 0 0) := by rw [← hqx]; simp
      have hxf : qx.frozen? ⟨q0.heap.size, 0, none⟩ = false := by rw [← hqx]; simp
      have hxz : qx.heap.size = q0.heap.size + 1 := by rw [← hqx]; simp
      obtain ⟨A9, hA6⟩ : ∃ A9, q0.heap.size = A9 := ⟨_, rfl⟩
      rw [hA6] at hxc hxf hxz ⊢
      rw [hqx]
      clear hqx
      have hBx := keepS hB0 hxb
      have hA0 : W8.heap.size ≤ A9 := by have := hB0.size; omega
      have hA6a : q0.heap.size ≤ A9 := by omega
      have hA6b : A9 ≤ q0.heap.size := by omega
      have hxbk := hid hxb
      clear hxb hA6
      refine hK.out _ _ ⟨hBx, (hBx.cell (p := ⟨w.heap.size, 0, none⟩) qz0).trans xa_4, (hBx.cell (p := ⟨w.heap.size + 1, 0, none⟩) qz1).trans xr_4, (hBx.cell (p := ⟨w.heap.size + 1, 1, none⟩) qz2).trans xs_4, (hBx.cell (p := ⟨A6, 0, none⟩) qz3).trans hbw_4, (hBx.cell (p := ⟨w7.heap.size, 0, none⟩) qz4).trans hbx⟩ (fun hHeld => ?_)
      clear hK K
      try simp only [Act.put, List.setIfInBounds_toArray, List.set_cons_zero, List.set_cons_succ]
      refine call1 (i := 2) (d := some 34) (by kernel_rfl) (by kernel_rfl) ?_
      intro o ho hod K hK; simp only [List.getElem?_toArray, List.getElem?_cons_succ, List.getElem?_cons_zero, Option.some.injEq] at ho; subst ho
      go_simp
      refine (toDotL r s _).mono ?_
      rintro e q4 ⟨rfl, qb4⟩
      have zz0 := qb4.size
      replace hxc := (qb4.cell (p := ⟨A9, 0, none⟩) (show A9 < qx.heap.size by omega)).trans hxc
      replace hxf := (qb4.frozen (p := ⟨A9, 0, none⟩) (show A9 < qx.heap.size by omega)).trans hxf
      have hC0 := keepS hBx qb4
      refine hK.out _ _ ⟨hC0, (hC0.cell (p := ⟨w.heap.size, 0, none⟩) qz0).trans xa_4, (hC0.cell (p := ⟨w.heap.size + 1, 0, none⟩) qz1).trans xr_4, (hC0.cell (p := ⟨w.heap.size + 1, 1, none⟩) qz2).trans xs_4, (hC0.cell (p := ⟨A6, 0, none⟩) qz3).trans hbw_4, (hC0.cell (p := ⟨w7.heap.size, 0, none⟩) qz4).trans hbx⟩ (fun hHeld => ?_)
      clear hK K
      try simp only [Act.put, List.setIfInBounds_toArray, List.set_cons_zero, List.set_cons_succ]
      refine call1 (i := 3) (d := some 35) (by kernel_rfl) (by kernel_rfl) ?_
      intro o ho hod K hK; simp only [List.getElem?_toArray, List.getElem?_cons_succ, List.getElem?_cons_zero, Option.some.injEq] at ho; subst ho
      go_simp
      have hBn := hC0
      refine (implAd _ n n R F T r s _ hl (HSx_4.out.below hBn)).mono ?_
      rintro e q5 ⟨qv, rfl, qo5, qb5⟩
      rw [HZ.out] at qo5
      rw [HOK.out]
      obtain ⟨qy, qm, qc, qe⟩ := row_form qo5
      subst qe
      have zz1 := qb5.size
      replace hxc := (qb5.cell (p := ⟨A9, 0, none⟩) (show A9 < q4.heap.size by omega)).trans hxc
      replace hxf := (qb5.frozen (p := ⟨A9, 0, none⟩) (show A9 < q4.heap.size by omega)).trans hxf
      have hC1 := keepS hC0 qb5
      refine hK.out _ _ ⟨hC1, (hC1.cell (p := ⟨w.heap.size, 0, none⟩) qz0).trans xa_4, (hC1.cell (p := ⟨w.heap.size + 1, 0, none⟩) qz1).trans xr_4, (hC1.cell (p := ⟨w.heap.size + 1, 1, none⟩) qz2).trans xs_4, (hC1.cell (p := ⟨A6, 0, none⟩) qz3).trans hbw_4, (hC1.cell (p := ⟨w7.heap.size, 0, none⟩) qz4).trans hbx⟩ (fun hHeld => ?_)
      clear hK K
      try simp only [Act.put, List.setIfInBounds_toArray, List.set_cons_zero, List.set_cons_succ]
      refine take1 (i := 4) (d := some 31) (v := ?_) (by kernel_rfl) (by kernel_rfl) (by kernel_rfl) (by kernel_rfl) (fun _ _ _ h => h) ?_ hHeld ?_
      rotate_left
      · (intro o ho; simp only [List.getElem?_toArray, List.getElem?_cons_succ, List.getElem?_cons_zero, Option.some.injEq] at ho; subst ho; refine Or.inl ⟨by rfl, ?_⟩; intro w hSw; (try dsimp only at hSw); go_simp; try with_reducible rfl)
      try simp only [Act.put, List.setIfInBounds_toArray, List.set_cons_zero, List.set_cons_succ]
      refine take1 (i := 5) (d := some 36) (v := ?_) (by kernel_rfl) (by kernel_rfl) (by kernel_rfl) (by kernel_rfl) (fun _ _ _ h => h) ?_ hHeld ?_
      rotate_left
      · (intro o ho; simp only [List.getElem?_toArray, List.getElem?_cons_succ, List.getElem?_cons_zero, Option.some.injEq] at ho; subst ho; refine Or.inl ⟨by rfl, ?_⟩; intro w hSw; (try dsimp only at hSw); go_simp; try with_reducible rfl)
      try simp only [Act.put, List.setIfInBounds_toArray, List.set_cons_zero, List.set_cons_succ]
      refine take1 (i := 6) (d := some 37) (v := ?_) (by kernel_rfl) (by kernel_rfl) (by kernel_rfl) (by kernel_rfl) (fun _ _ _ h => h) ?_ hHeld ?_
      rotate_left
      · (intro o ho; simp only [List.getElem?_toArray, List.getElem?_cons_succ, List.getElem?_cons_zero, Option.some.injEq] at ho; subst ho; refine Or.inl ⟨by rfl, ?_⟩; intro w hSw; (try dsimp only at hSw); go_simp; try with_reducible rfl)
      try simp only [Act.put, List.setIfInBounds_toArray, List.set_cons_zero, List.set_cons_succ]
      refine call1 (i := 8) (d := none) (by kernel_rfl) (by kernel_rfl) ?_
      intro o ho hod K hK; simp only [List.getElem?_toArray, List.getElem?_cons_succ, List.getElem?_cons_zero, Option.some.injEq] at ho; subst ho
      go_simp
      obtain ⟨W9, hW6⟩ : ∃ W9, q5.setCell ⟨A9, 0, none⟩ (.slice qy qm qc) = W9 := ⟨_, rfl⟩
      have hB7 : Below W8.heap.size W8 W9 := by rw [← hW6]; exact hC1.setCell (p := ⟨A9, 0, none⟩) hA0 _
      have hx7 : W9.cell? ⟨A9, 0, none⟩ = some (.slice qy qm qc) := by rw [← hW6]; exact World.cell?_setCell_same _ _ _ hxc
      have hz7 : W9.heap.size = q5.heap.size := by rw [← hW6]; simp [World.setCell]
      have hF7 : FR W9 W8.heap.size (.slice qy qm qc) Z := by rw [← hW6]; exact FR.weak (ownsRow_setCell_below qo5 (a := ⟨A9, 0, none⟩) (by show A9 < _; omega) _) (by have := hBn.size; omega)
      have hN7 : ∀ g, (Value.slice qy qm qc).ownBlock = some g → g ≠ A9 := fun g hg e => by have := (World.ownsRow.lt qo5 g hg).1; omega
      rw [hW6]
      refine hK.out _ _ ⟨hB7, (hB7.cell (p := ⟨w.heap.size, 0, none⟩) qz0).trans xa_4, (hB7.cell (p := ⟨w.heap.size + 1, 0, none⟩) qz1).trans xr_4, (hB7.cell (p := ⟨w.heap.size + 1, 1, none⟩) qz2).trans xs_4, (hB7.cell (p := ⟨A6, 0, none⟩) qz3).trans hbw_4, (hB7.cell (p := ⟨w7.heap.size, 0, none⟩) qz4).trans hbx⟩ (fun hHeld => ?_)
      clear hK K
      try simp only [Act.put, List.setIfInBounds_toArray, List.set_cons_zero, List.set_cons_succ]
      refine take1 (i := 9) (d := some 10) (v := ?_) (by kernel_rfl) (by kernel_rfl) (by kernel_rfl) (by kernel_rfl) (fun _ _ _ h => h) ?_ hHeld ?_
      rotate_left
      · (intro o ho; simp only [List.getElem?_toArray, List.getElem?_cons_succ, List.getElem?_cons_zero, Option.some.injEq] at ho; subst ho; refine Or.inl ⟨by rfl, ?_⟩; intro w hSw; (try dsimp only at hSw); go_simp; try with_reducible rfl)
      try simp only [Act.put, List.setIfInBounds_toArray, List.set_cons_zero, List.set_cons_succ]
      refine wpAnyH_done (by kernel_rfl) ?_ _
      have hA1 : A9 < W9.heap.size := by omega
      clear hHeld
      clear hW6
      clear hz7
      clear hxc
      clear hxf
      clear hxz
      clear hA6a
      clear hA6b
      clear qo5
      revert A9 qy qm qc W9
      exact key.out
    · skip
      intro o ho hod K hK; simp only [List.getElem?_toArray, List.getElem?_cons_succ, List.getElem?_cons_zero, Option.some.injEq] at ho; subst ho
      go_simp
      refine (toDotL r s _).mono ?_
      rintro e q4 ⟨rfl, qb4⟩
      have zz0 := qb4.size
      have hC0 := keepS hB0 qb4
      refine hK.out _ _ ⟨hC0, (hC0.cell (p := ⟨w.heap.size, 0, none⟩) qz0).trans xa_4, (hC0.cell (p := ⟨w.heap.size + 1, 0, none⟩) qz1).trans xr_4, (hC0.cell (p := ⟨w.heap.size + 1, 1, none⟩) qz2).trans xs_4, (hC0.cell (p := ⟨A6, 0, none⟩) qz3).trans hbw_4, (hC0.cell (p := ⟨w7.heap.size, 0, none⟩) qz4).trans hbx⟩ (fun hHeld => ?_)
      clear hK K
      try simp only [Act.put, List.setIfInBounds_toArray, List.set_cons_zero, List.set_cons_succ]
      refine call2 (i := 3) (d := some 35) (j := 7) (e := some 9) (by kernel_rfl) (by kernel_rfl) (by kernel_rfl) ?_ ?_
      rotate_left
      · skip
        intro o ho hod K hK; simp only [List.getElem?_toArray, List.getElem?_cons_succ, List.getElem?_cons_zero, Option.some.injEq] at ho; subst ho
        go_simp
        obtain ⟨qx, hqx⟩ : ∃ qx, q4.alloc (.cells #[.slice none 0 0] 41) = qx := ⟨_, rfl⟩
        have hxb : Below q4.heap.size q4 qx := by rw [← hqx]; exact (Below.refl _ _).alloc (Nat.le_refl _) _
        have hxc : qx.cell? ⟨q4.heap.size, 0, none⟩ = some (.slice none 0 0) := by rw [← hqx]; simp
        have hxf : qx.frozen? ⟨q4.heap.size, 0, none⟩ = false := by rw [← hqx]; simp
        have hxz : qx.heap.size = q4.heap.size + 1 := by rw [← hqx]; simp
        obtain ⟨A9, hA6⟩ : ∃ A9, q4.heap.size = A9 := ⟨_, rfl⟩
        rw [hA6] at hxc hxf hxz ⊢
        rw [hqx]
        clear hqx
        have hBx := keepS hC0 hxb
        have hA0 : W8.heap.size ≤ A9 := by have := hC0.size; omega
        have hA6a : q4.heap.size ≤ A9 := by omega
        have hA6b : A9 ≤ q4.heap.size := by omega
        have hxbk := hid hxb
        clear hxb hA6
        refine hK.out _ _ ⟨hBx, (hBx.cell (p := ⟨w.heap.size, 0, none⟩) qz0).trans xa_4, (hBx.cell (p := ⟨w.heap.size + 1, 0, none⟩) qz1).trans xr_4, (hBx.cell (p := ⟨w.heap.size + 1, 1, none⟩) qz2).trans xs_4, (hBx.cell (p := ⟨A6, 0, none⟩) qz3).trans hbw_4, (hBx.cell (p := ⟨w7.heap.size, 0, none⟩) qz4).trans hbx⟩ (fun hHeld => ?_)
        clear hK K
        try simp only [Act.put, List.setIfInBounds_toArray, List.set_cons_zero, List.set_cons_succ]
        refine call1 (i := 3) (d := some 35) (by kernel_rfl) (by kernel_rfl) ?_
        intro o ho hod K hK; simp only [List.getElem?_toArray, List.getElem?_cons_succ, List.getElem?_cons_zero, Option.some.injEq] at ho; subst ho
        go_simp
        have hBn := hBx
        refine (implAd _ n n R F T r s _ hl (HSx_4.out.below hBn)).mono ?_
        rintro e q5 ⟨qv, rfl, qo5, qb5⟩
        rw [HZ.out] at qo5
        rw [HOK.out]
        obtain ⟨qy, qm, qc, qe⟩ := row_form qo5
        subst qe
        have zz1 := qb5.size
        replace hxc := (qb5.cell (p := ⟨A9, 0, none⟩) (show A9 < qx.heap.size by omega)).trans hxc
        replace hxf := (qb5.frozen (p := ⟨A9, 0, none⟩) (show A9 < qx.heap.size by omega)).trans hxf
        have hC1 := keepS hBx qb5
        refine hK.out _ _ ⟨hC1, (hC1.cell (p := ⟨w.heap.size, 0, none⟩) qz0).trans xa_4, (hC1.cell (p := ⟨w.heap.size + 1, 0, none⟩) qz1).trans xr_4, (hC1.cell (p := ⟨w.heap.size + 1, 1, none⟩) qz2).trans xs_4, (hC1.cell (p := ⟨A6, 0, none⟩) qz3).trans hbw_4, (hC1.cell (p := ⟨w7.heap.size, 0, none⟩) qz4).trans hbx⟩ (fun hHeld => ?_)
        clear hK K
        try simp only [Act.put, List.setIfInBounds_toArray, List.set_cons_zero, List.set_cons_succ]
        refine take1 (i := 4) (d := some 31) (v := ?_) (by kernel_rfl) (by kernel_rfl) (by kernel_rfl) (by kernel_rfl) (fun _ _ _ h => h) ?_ hHeld ?_
        rotate_left
        · (intro o ho; simp only [List.getElem?_toArray, List.getElem?_cons_succ, List.getElem?_cons_zero, Option.some.injEq] at ho; subst ho; refine Or.inl ⟨by rfl, ?_⟩; intro w hSw; (try dsimp only at hSw); go_simp; try with_reducible rfl)
        try simp only [Act.put, List.setIfInBounds_toArray, List.set_cons_zero, List.set_cons_succ]
        refine take1 (i := 5) (d := some 36) (v := ?_) (by kernel_rfl) (by kernel_rfl) (by kernel_rfl) (by kernel_rfl) (fun _ _ _ h => h) ?_ hHeld ?_
        rotate_left
        · (intro o ho; simp only [List.getElem?_toArray, List.getElem?_cons_succ, List.getElem?_cons_zero, Option.some.injEq] at ho; subst ho; refine Or.inl ⟨by rfl, ?_⟩; intro w hSw; (try dsimp only at hSw); go_simp; try with_reducible rfl)
        try simp only [Act.put, List.setIfInBounds_toArray, List.set_cons_zero, List.set_cons_succ]
        refine take1 (i := 6) (d := some 37) (v := ?_) (by kernel_rfl) (by kernel_rfl) (by kernel_rfl) (by kernel_rfl) (fun _ _ _ h => h) ?_ hHeld ?_
        rotate_left
        · (intro o ho; simp only [List.getElem?_toArray, List.getElem?_cons_succ, List.getElem?_cons_zero, Option.some.injEq] at ho; subst ho; refine Or.inl ⟨by rfl, ?_⟩; intro w hSw; (try dsimp only at hSw); go_simp; try with_reducible rfl)
        try simp only [Act.put, List.setIfInBounds_toArray, List.set_cons_zero, List.set_cons_succ]
        refine call1 (i := 8) (d := none) (by kernel_rfl) (by kernel_rfl) ?_
        intro o ho hod K hK; simp only [List.getElem?_toArray, List.getElem?_cons_succ, List.getElem?_cons_zero, Option.some.injEq] at ho; subst ho
        go_simp
        obtain ⟨W9, hW6⟩ : ∃ W9, q5.setCell ⟨A9, 0, none⟩ (.slice qy qm qc) = W9 := ⟨_, rfl⟩
        have hB7 : Below W8.heap.size W8 W9 := by rw [← hW6]; exact hC1.setCell (p := ⟨A9, 0, none⟩) hA0 _
        have hx7 : W9.cell? ⟨A9, 0, none⟩ = some (.slice qy qm qc) := by rw [← hW6]; exact World.cell?_setCell_same _ _ _ hxc
        have hz7 : W9.heap.size = q5.heap.size := by rw [← hW6]; simp [World.setCell]
        have hF7 : FR W9 W8.heap.size (.slice qy qm qc) Z := by rw [← hW6]; exact FR.weak (ownsRow_setCell_below qo5 (a := ⟨A9, 0, none⟩) (by show A9 < _; omega) _) (by have := hBn.size; omega)
        have hN7 : ∀ g, (Value.slice qy qm qc).ownBlock = some g → g ≠ A9 := fun g hg e => by have := (World.ownsRow.lt qo5 g hg).1; omega
        rw [hW6]
        refine hK.out _ _ ⟨hB7, (hB7.cell (p := ⟨w.heap.size, 0, none⟩) qz0).trans xa_4, (hB7.cell (p := ⟨w.heap.size + 1, 0, none⟩) qz1).trans xr_4, (hB7.cell (p := ⟨w.heap.size + 1, 1, none⟩) qz2).trans xs_4, (hB7.cell (p := ⟨A6, 0, none⟩) qz3).trans hbw_4, (hB7.cell (p := ⟨w7.heap.size, 0, none⟩) qz4).trans hbx⟩ (fun hHeld => ?_)
        clear hK K
        try simp only [Act.put, List.setIfInBounds_toArray, List.set_cons_zero, List.set_cons_succ]
        refine take1 (i := 9) (d := some 10) (v := ?_) (by kernel_rfl) (by kernel_rfl) (by kernel_rfl) (by kernel_rfl) (fun _ _ _ h => h) ?_ hHeld ?_
        rotate_left
        · (intro o ho; simp only [List.getElem?_toArray, List.getElem?_cons_succ, List.getElem?_cons_zero, Option.some.injEq] at ho; subst ho; refine Or.inl ⟨by rfl, ?_⟩; intro w hSw; (try dsimp only at hSw); go_simp; try with_reducible rfl)
        try simp only [Act.put, List.setIfInBounds_toArray, List.set_cons_zero, List.set_cons_succ]
        refine wpAnyH_done (by kernel_rfl) ?_ _
        have hA1 : A9 < W9.heap.size := by omega
        exact key.out A9 hA0 qy qm qc W9 hB7 hx7 hF7 hN7 hA1
      · skip
        intro o ho hod K hK; simp only [List.getElem?_toArray, List.getElem?_cons_succ, List.getElem?_cons_zero, Option.some.injEq] at ho; subst ho
        go_simp
        have hBn := hC0
        refine (implAd _ n n R F T r s _ hl (HSx_4.out.below hBn)).mono ?_
        rintro e q5 ⟨qv, rfl, qo5, qb5⟩
        rw [HZ.out] at qo5
        rw [HOK.out]
        obtain ⟨qy, qm, qc, qe⟩ := row_form qo5
        subst qe
        have zz1 := qb5.size
        have hC1 := keepS hC0 qb5
        refine hK.out _ _ ⟨hC1, (hC1.cell (p := ⟨w.heap.size, 0, none⟩) qz0).trans xa_4, (hC1.cell (p := ⟨w.heap.size + 1, 0, none⟩) qz1).trans xr_4, (hC1.cell (p := ⟨w.heap.size + 1, 1, none⟩) qz2).trans xs_4, (hC1.cell (p := ⟨A6, 0, none⟩) qz3).trans hbw_4, (hC1.cell (p := ⟨w7.heap.size, 0, none⟩) qz4).trans hbx⟩ (fun hHeld => ?_)
        clear hK K
        try simp only [Act.put, List.setIfInBounds_toArray, List.set_cons_zero, List.set_cons_succ]
        refine take1 (i := 4) (d := some 31) (v := ?_) (by kernel_rfl) (by kernel_rfl) (by kernel_rfl) (by kernel_rfl) (fun _ _ _ h => h) ?_ hHeld ?_
        rotate_left
        · (intro o ho; simp only [List.getElem?_toArray, List.getElem?_cons_succ, List.getElem?_cons_zero, Option.some.injEq] at ho; subst ho; refine Or.inl ⟨by rfl, ?_⟩; intro w hSw; (try dsimp only at hSw); go_simp; try with_reducible rfl)
        try simp only [Act.put, List.setIfInBounds_toArray, List.set_cons_zero, List.set_cons_succ]
        refine take1 (i := 5) (d := some 36) (v := ?_) (by kernel_rfl) (by kernel_rfl) (by kernel_rfl) (by kernel_rfl) (fun _ _ _ h => h) ?_ hHeld ?_
        rotate_left
        · (intro o ho; simp only [List.getElem?_toArray, List.getElem?_cons_succ, List.getElem?_cons_zero, Option.some.injEq] at ho; subst ho; refine Or.inl ⟨by rfl, ?_⟩; intro w hSw; (try dsimp only at hSw); go_simp; try with_reducible rfl)
        try simp only [Act.put, List.setIfInBounds_toArray, List.set_cons_zero, List.set_cons_succ]
        refine take1 (i := 6) (d := some 37) (v := ?_) (by kernel_rfl) (by kernel_rfl) (by kernel_rfl) (by kernel_rfl) (fun _ _ _ h => h) ?_ hHeld ?_
        rotate_left
        · (intro o ho; simp only [List.getElem?_toArray, List.getElem?_cons_succ, List.getElem?_cons_zero, Option.some.injEq] at ho; subst ho; refine Or.inl ⟨by rfl, ?_⟩; intro w hSw; (try dsimp only at hSw); go_simp; try with_reducible rfl)
        try simp only [Act.put, List.setIfInBounds_toArray, List.set_cons_zero, List.set_cons_succ]
        refine call1 (i := 7) (d := some 9) (by kernel_rfl) (by kernel_rfl) ?_
        intro o ho hod K hK; simp only [List.getElem?_toArray, List.getElem?_cons_succ, List.getElem?_cons_zero, Option.some.injEq] at ho; subst ho
        go_simp
        obtain ⟨qx, hqx⟩ : ∃ qx, q5.alloc (.cells #[.slice none 0 0] 41) = qx := ⟨_, rfl⟩
        have hxb : Below q5.heap.size q5 qx := by rw [← hqx]; exact (Below.refl _ _).alloc (Nat.le_refl _) _
        have hxc : qx.cell? ⟨q5.heap.size, 0, none⟩ = some (.slice none 0 0) := by rw [← hqx]; simp
        have hxf : qx.frozen? ⟨q5.heap.size, 0, none⟩ = false := by rw [← hqx]; simp
        have hxz : qx.heap.size = q5.heap.size + 1 := by rw [← hqx]; simp
        obtain ⟨A9, hA6⟩ : ∃ A9, q5.heap.size = A9 := ⟨_, rfl⟩
        rw [hA6] at hxc hxf hxz ⊢
        rw [hqx]
        clear hqx
        have hB6 := keepS hC1 hxb
        have hA0 : W8.heap.size ≤ A9 := by have := hC1.size; omega
        have hA6a : q5.heap.size ≤ A9 := by omega
        have hA6b : A9 ≤ q5.heap.size := by omega
        have hxbk := hid hxb
        clear hxb hA6
        refine hK.out _ _ ⟨hB6, (hB6.cell (p := ⟨w.heap.size, 0, none⟩) qz0).trans xa_4, (hB6.cell (p := ⟨w.heap.size + 1, 0, none⟩) qz1).trans xr_4, (hB6.cell (p := ⟨w.heap.size + 1, 1, none⟩) qz2).trans xs_4, (hB6.cell (p := ⟨A6, 0, none⟩) qz3).trans hbw_4, (hB6.cell (p := ⟨w7.heap.size, 0, none⟩) qz4).trans hbx⟩ (fun hHeld => ?_)
        clear hK K
        try simp only [Act.put, List.setIfInBounds_toArray, List.set_cons_zero, List.set_cons_succ]
        refine call1 (i := 8) (d := none) (by kernel_rfl) (by kernel_rfl) ?_
        intro o ho hod K hK; simp only [List.getElem?_toArray, List.getElem?_cons_succ, List.getElem?_cons_zero, Option.some.injEq] at ho; subst ho
        go_simp
        obtain ⟨W9, hW6⟩ : ∃ W9, qx.setCell ⟨A9, 0, none⟩ (.slice qy qm qc) = W9 := ⟨_, rfl⟩
        have hB7 : Below W8.heap.size W8 W9 := by rw [← hW6]; exact hB6.setCell (p := ⟨A9, 0, none⟩) hA0 _
        have hx7 : W9.cell? ⟨A9, 0, none⟩ = some (.slice qy qm qc) := by rw [← hW6]; exact World.cell?_setCell_same _ _ _ hxc
        have hz7 : W9.heap.size = qx.heap.size := by rw [← hW6]; simp [World.setCell]
        have hF7 : FR W9 W8.heap.size (.slice qy qm qc) Z := by rw [← hW6]; exact FR.weak (FR.below qo5 (hxbk.out.setCell (p := ⟨A9, 0, none⟩) hA6a _)) (by have := hBn.size; omega)
        have hN7 : ∀ g, (Value.slice qy qm qc).ownBlock = some g → g ≠ A9 := fun g hg e => by have := (World.ownsRow.lt qo5 g hg).2; omega
        rw [hW6]
        refine hK.out _ _ ⟨hB7, (hB7.cell (p := ⟨w.heap.size, 0, none⟩) qz0).trans xa_4, (hB7.cell (p := ⟨w.heap.size + 1, 0, none⟩) qz1).trans xr_4, (hB7.cell (p := ⟨w.heap.size + 1, 1, none⟩) qz2).trans xs_4, (hB7.cell (p := ⟨A6, 0, none⟩) qz3).trans hbw_4, (hB7.cell (p := ⟨w7.heap.size, 0, none⟩) qz4).trans hbx⟩ (fun hHeld => ?_)
        clear hK K
        try simp only [Act.put, List.setIfInBounds_toArray, List.set_cons_zero, List.set_cons_succ]
        refine take1 (i := 9) (d := some 10) (v := ?_) (by kernel_rfl) (by kernel_rfl) (by kernel_rfl) (by kernel_rfl) (fun _ _ _ h => h) ?_ hHeld ?_
        rotate_left
        · (intro o ho; simp only [List.getElem?_toArray, List.getElem?_cons_succ, List.getElem?_cons_zero, Option.some.injEq] at ho; subst ho; refine Or.inl ⟨by rfl, ?_⟩; intro w hSw; (try dsimp only at hSw); go_simp; try with_reducible rfl)
        try simp only [Act.put, List.setIfInBounds_toArray, List.set_cons_zero, List.set_cons_succ]
        refine wpAnyH_done (by kernel_rfl) ?_ _
        have hA1 : A9 < W9.heap.size := by omega
        exact key.out A9 hA0 qy qm qc W9 hB7 hx7 hF7 hN7 hA1
  intro A9 hA0 qy qm qc W9 hB7 hx7 hF7 hN7 hA1
  have HFg := hid hF7
  have HVg : Hid (∀ g, (Value.slice qy qm qc).ownBlock = some g → W8.heap.size ≤ g ∧ g < W9.heap.size ∧ g ≠ A9) := fun g hg => ⟨(World.ownsRow.lt hF7 g hg).1, (World.ownsRow.lt hF7 g hg).2, hN7 g hg⟩
  clear hF7 hN7
  have zy5 := hB7.size
  have xa_5 := (hB7.cell (p := ⟨w.heap.size, 0, none⟩) (show w.heap.size < W8.heap.size by omega)).trans xa_4
  have xr_5 := (hB7.cell (p := ⟨w.heap.size + 1, 0, none⟩) (show w.heap.size + 1 < W8.heap.size by omega)).trans xr_4
  have xs_5 := (hB7.cell (p := ⟨w.heap.size + 1, 1, none⟩) (show w.heap.size + 1 < W8.heap.size by omega)).trans xs_4
  have hbw_5 := (hB7.cell (p := ⟨A6, 0, none⟩) (show A6 < W8.heap.size by omega)).trans hbw_4
  have hbx_5 := (hB7.cell (p := ⟨w7.heap.size, 0, none⟩) (show w7.heap.size < W8.heap.size by omega)).trans hbx
  have HSx_5 := hid (HSx_4.out.below hB7)
  have HF6_5 := hid (HF6_4.out.below hB7)
  have HOx_5 := hid (owns_below HOx_4.out hB7 (fun k hk => by simp [Value.ownBlock] at hk; omega))
  have HB_5 := hid (keepS HB_4.out hB7)
  clear xa_4 xr_4 xs_4 hbw_4 hbx HSx_4 HF6_4 HOx_4 HB_4 hB7
  have hbg := hx7
  clear hx7
  go_wp2_with fail
  refine (eqFR HFg.out HF6_5.out (by omega)).mono ?_
  rintro e w13 ⟨rfl, b13⟩
  have zy6 := b13.size
  have xa_6 := (b13.cell (p := ⟨w.heap.size, 0, none⟩) (show w.heap.size < W9.heap.size by omega)).trans xa_5
  have xr_6 := (b13.cell (p := ⟨w.heap.size + 1, 0, none⟩) (show w.heap.size + 1 < W9.heap.size by omega)).trans xr_5
  have xs_6 := (b13.cell (p := ⟨w.heap.size + 1, 1, none⟩) (show w.heap.size + 1 < W9.heap.size by omega)).trans xs_5
  have hbw_6 := (b13.cell (p := ⟨A6, 0, none⟩) (show A6 < W9.heap.size by omega)).trans hbw_5
  have hbx_6 := (b13.cell (p := ⟨w7.heap.size, 0, none⟩) (show w7.heap.size < W9.heap.size by omega)).trans hbx_5
  have hbg_6 := (b13.cell (p := ⟨A9, 0, none⟩) (show A9 < W9.heap.size by omega)).trans hbg
  have HSx_6 := hid (HSx_5.out.below b13)
  have HF6_6 := hid (HF6_5.out.below b13)
  have HFg_6 := hid (HFg.out.below b13)
  have HOx_6 := hid (owns_below HOx_5.out b13 (fun k hk => by simp [Value.ownBlock] at hk; omega))
  have HB_6 := hid (keepS HB_5.out b13)
  clear xa_5 xr_5 xs_5 hbw_5 hbx_5 hbg HSx_5 HF6_5 HFg HOx_5 HB_5 b13
  go_wp2_with fail
  have rzx : w7.heap.size < w13.heap.size := by omega
  have rza : w.heap.size < w13.heap.size := by omega
  refine wp_region_held_drew (S := fun w' => Below w13.heap.size w13 w' ∧ w'.cell? ⟨w7.heap.size, 0, none⟩ = some (.slice (some ⟨g7, 0, none⟩) n n) ∧ w'.cell? ⟨w.heap.size, 0, none⟩ = some (.slice a n c)) (by kernel_rfl) ⟨(Below.refl _ _).drew, hbx_6, xa_6⟩ (fun hHeld => ?_)
  refine take1 (i := 0) (d := some 47) (v := ?_) (by kernel_rfl) (by kernel_rfl) (by kernel_rfl) (by kernel_rfl) (fun _ _ _ h => h) ?_ hHeld ?_
  rotate_left
  · (intro o ho; simp only [List.getElem?_toArray, List.getElem?_cons_succ, List.getElem?_cons_zero, Option.some.injEq] at ho; subst ho; refine Or.inl ⟨by rfl, ?_⟩; intro w hSw; (try dsimp only at hSw); go_simp; try with_reducible rfl)
  try simp only [Act.put, List.setIfInBounds_toArray, List.set_cons_zero, List.set_cons_succ]
  refine take1 (i := 1) (d := some 48) (v := ?_) (by kernel_rfl) (by kernel_rfl) (by kernel_rfl) (by kernel_rfl) (fun _ _ _ h => h) ?_ hHeld ?_
  rotate_left
  · (intro o ho; simp only [List.getElem?_toArray, List.getElem?_cons_succ, List.getElem?_cons_zero, Option.some.injEq] at ho; subst ho; refine Or.inl ⟨by rfl, ?_⟩; intro w hSw; (try dsimp only at hSw); go_simp; try with_reducible rfl)
  try simp only [Act.put, List.setIfInBounds_toArray, List.set_cons_zero, List.set_cons_succ]
  refine call1 (i := 2) (d := some 49) (by kernel_rfl) (by kernel_rfl) ?_
  intro o ho hod K hK; simp only [List.getElem?_toArray, List.getElem?_cons_succ, List.getElem?_cons_zero, Option.some.injEq] at ho; subst ho
  go_simp
  refine (toContext a n c R F T _ hl (HH.out.below (keepS HB_6.out hHeld.1))).mono ?_
  rintro e ra ⟨rg, rh, rh', rfl, rs, rb⟩
  have hB := keepS hHeld.1 rb
  refine hK.out _ _ ⟨hB, (hB.cell (p := ⟨w7.heap.size, 0, none⟩) rzx).trans hbx_6, (hB.cell (p := ⟨w.heap.size, 0, none⟩) rza).trans xa_6⟩ (fun hHeld => ?_)
  clear hK K
  try simp only [Act.put, List.setIfInBounds_toArray, List.set_cons_zero, List.set_cons_succ]
  refine call1 (i := 3) (d := some 50) (by kernel_rfl) (by kernel_rfl) ?_
  intro o ho hod K hK; simp only [List.getElem?_toArray, List.getElem?_cons_succ, List.getElem?_cons_zero, Option.some.injEq] at ho; subst ho
  go_simp
  refine (eqContext _ _ n n n R F T _ hl (HSx_6.out.below hB) rs).mono ?_
  rintro e r1 ⟨rfl, rbb⟩
  have hB8 := keepS hB rbb
  refine hK.out _ _ ⟨hB8, (hB8.cell (p := ⟨w7.heap.size, 0, none⟩) rzx).trans hbx_6, (hB8.cell (p := ⟨w.heap.size, 0, none⟩) rza).trans xa_6⟩ (fun hHeld => ?_)
  clear hK K
  try simp only [Act.put, List.setIfInBounds_toArray, List.set_cons_zero, List.set_cons_succ]
  refine take1 (i := 4) (d := some 51) (v := ?_) (by kernel_rfl) (by kernel_rfl) (by kernel_rfl) (by kernel_rfl) (fun _ _ _ h => h) ?_ hHeld ?_
  rotate_left
  · (intro o ho; simp only [List.getElem?_toArray, List.getElem?_cons_succ, List.getElem?_cons_zero, Option.some.injEq] at ho; subst ho; refine Or.inl ⟨by rfl, ?_⟩; intro w hSw; (try dsimp only at hSw); go_simp; try with_reducible rfl)
  try simp only [Act.put, List.setIfInBounds_toArray, List.set_cons_zero, List.set_cons_succ]
  refine wpAnyH_done (by kernel_rfl) ?_ _
  clear hHeld hB rb rbb rs rh rh'
  have zy7 := hB8.size
  have xa_7 := (hB8.cell (p := ⟨w.heap.size, 0, none⟩) (show w.heap.size < w13.heap.size by omega)).trans xa_6
  have xr_7 := (hB8.cell (p := ⟨w.heap.size + 1, 0, none⟩) (show w.heap.size + 1 < w13.heap.size by omega)).trans xr_6
  have xs_7 := (hB8.cell (p := ⟨w.heap.size + 1, 1, none⟩) (show w.heap.size + 1 < w13.heap.size by omega)).trans xs_6
  have hbw_7 := (hB8.cell (p := ⟨A6, 0, none⟩) (show A6 < w13.heap.size by omega)).trans hbw_6
  have hbx_7 := (hB8.cell (p := ⟨w7.heap.size, 0, none⟩) (show w7.heap.size < w13.heap.size by omega)).trans hbx_6
  have hbg_7 := (hB8.cell (p := ⟨A9, 0, none⟩) (show A9 < w13.heap.size by omega)).trans hbg_6
  have HSx_7 := hid (HSx_6.out.below hB8)
  have HF6_7 := hid (HF6_6.out.below hB8)
  have HFg_7 := hid (HFg_6.out.below hB8)
  have HOx_7 := hid (owns_below HOx_6.out hB8 (fun k hk => by simp [Value.ownBlock] at hk; omega))
  have HB_7 := hid (keepS HB_6.out hB8)
  clear xa_6 xr_6 xs_6 hbw_6 hbx_6 hbg_6 HSx_6 HF6_6 HFg_6 HOx_6 HB_6 hB8
  go_wp2_with fail
  refine (markContext W6.heap.size g7 n n 1 xsg7 r1 (by omega) (by omega) (by omega) HOx_7.out).mono ?_
  rintro e w18 ⟨rfl, b18, _, z18, o18⟩
  have gr18 := grownR b18 z18 o18
  clear b18 z18 o18
  have zy8 := gr18.size
  have xa_8 := gr18.cell xa_7 (by simp; omega)
  have xr_8 := gr18.cell xr_7 (by simp; omega)
  have xs_8 := gr18.cell xs_7 (by simp; omega)
  have hbw_8 := gr18.cell hbw_7 (by simp; omega)
  have hbx_8 := gr18.cell hbx_7 (by simp; omega)
  have hbg_8 := gr18.cell hbg_7 (by simp; omega)
  have HF6_8 := hid (HF6_7.out.gr gr18 (fun g hg e => by injection e with e; have := HVw.out g hg; omega))
  have HFg_8 := hid (HFg_7.out.gr gr18 (fun g hg e => by injection e with e; have := HVg.out g hg; omega))
  have HB_8 := hid ((HB_7.out).grown gr18 (by omega) (fun k hk => by injection hk with hk; omega))
  clear xa_7 xr_7 xs_7 hbw_7 hbx_7 hbg_7 HF6_7 HFg_7 HOx_7 HB_7 gr18 HSx_7
  go_wp2_with fail
  refine (eqFR HFg_8.out HF6_8.out (by omega)).mono ?_
  rintro e w20 ⟨rfl, b20⟩
  have zy9 := b20.size
  have xa_9 := (b20.cell (p := ⟨w.heap.size, 0, none⟩) (show w.heap.size < w18.heap.size by omega)).trans xa_8
  have xr_9 := (b20.cell (p := ⟨w.heap.size + 1, 0, none⟩) (show w.heap.size + 1 < w18.heap.size by omega)).trans xr_8
  have xs_9 := (b20.cell (p := ⟨w.heap.size + 1, 1, none⟩) (show w.heap.size + 1 < w18.heap.size by omega)).trans xs_8
  have hbw_9 := (b20.cell (p := ⟨A6, 0, none⟩) (show A6 < w18.heap.size by omega)).trans hbw_8
  have hbx_9 := (b20.cell (p := ⟨w7.heap.size, 0, none⟩) (show w7.heap.size < w18.heap.size by omega)).trans hbx_8
  have hbg_9 := (b20.cell (p := ⟨A9, 0, none⟩) (show A9 < w18.heap.size by omega)).trans hbg_8
  have HF6_9 := hid (HF6_8.out.below b20)
  have HFg_9 := hid (HFg_8.out.below b20)
  have HB_9 := hid (keepS HB_8.out b20)
  clear xa_8 xr_8 xs_8 hbw_8 hbx_8 hbg_8 HF6_8 HFg_8 HB_8 b20
  go_wp2_with fail
  refine (markFR HFg_9.out (by omega) hZl 1 (by omega)).mono ?_
  rintro e w21 ⟨rfl, g21, a21, c21, e21, s21⟩
  have HS21 := hid s21
  have HE21 := hid e21
  clear s21 e21
  have zy10 := g21.size
  have xa_10 := g21.cell xa_9 (fun e => by have := HVg.out _ e.symm; dsimp only at this; omega)
  have xr_10 := g21.cell xr_9 (fun e => by have := HVg.out _ e.symm; dsimp only at this; omega)
  have xs_10 := g21.cell xs_9 (fun e => by have := HVg.out _ e.symm; dsimp only at this; omega)
  have hbw_10 := g21.cell hbw_9 (fun e => by have := HVg.out _ e.symm; dsimp only at this; omega)
  have hbx_10 := g21.cell hbx_9 (fun e => by have := HVg.out _ e.symm; dsimp only at this; omega)
  have hbg_10 := g21.cell hbg_9 (fun e => by have := HVg.out _ e.symm; dsimp only at this; omega)
  have HF6_10 := hid (HF6_9.out.gr g21 (fun g hg e => by have h1 := HVg.out g e.symm; have h2 := HVw.out g hg; omega))
  have HB_10 := hid ((HB_9.out).grown g21 (by omega) (fun k hk => by have := HVg.out k hk; omega))
  clear xa_9 xr_9 xs_9 hbw_9 hbx_9 hbg_9 HF6_9 HFg_9 HB_9 g21
  go_wp2_with fail
  have e21 := HE21.out
  injection e21 with e1 e2 e3
  subst e1 e2 e3
  refine (heldContext _ _ _ 1 w21 (by omega) (by omega) HS21.out).mono ?_
  rintro e w22 ⟨rfl, b22⟩
  clear HS21 HE21 HVg
  have zy11 := b22.size
  have xa_11 := (b22.cell (p := ⟨w.heap.size, 0, none⟩) (show w.heap.size < w21.heap.size by omega)).trans xa_10
  have xr_11 := (b22.cell (p := ⟨w.heap.size + 1, 0, none⟩) (show w.heap.size + 1 < w21.heap.size by omega)).trans xr_10
  have xs_11 := (b22.cell (p := ⟨w.heap.size + 1, 1, none⟩) (show w.heap.size + 1 < w21.heap.size by omega)).trans xs_10
  have hbw_11 := (b22.cell (p := ⟨A6, 0, none⟩) (show A6 < w21.heap.size by omega)).trans hbw_10
  have hbx_11 := (b22.cell (p := ⟨w7.heap.size, 0, none⟩) (show w7.heap.size < w21.heap.size by omega)).trans hbx_10
  have hbg_11 := (b22.cell (p := ⟨A9, 0, none⟩) (show A9 < w21.heap.size by omega)).trans hbg_10
  have HF6_11 := hid (HF6_10.out.below b22)
  have HB_11 := hid (keepS HB_10.out b22)
  clear xa_10 xr_10 xs_10 hbw_10 hbx_10 hbg_10 HF6_10 HB_10 b22
  have uz0 : w.heap.size < w22.heap.size := by omega
  have uz1 : w.heap.size + 1 < w22.heap.size := by omega
  have uz2 : w.heap.size + 1 < w22.heap.size := by omega
  have uz3 : A6 < w22.heap.size := by omega
  go_wp2_with fail
  apply cutT
  · intro key
    refine wp_region_held_drew (S := fun w' => Below w22.heap.size w22 w' ∧ w'.cell? ⟨w.heap.size, 0, none⟩ = some (.slice a n c) ∧ w'.cell? ⟨w.heap.size + 1, 0, none⟩ = some (.int .i64 r) ∧ w'.cell? ⟨w.heap.size + 1, 1, none⟩ = some (.int .i64 s) ∧ w'.cell? ⟨A6, 0, none⟩ = some (.slice py pm pc)) (by kernel_rfl) ⟨(Below.refl _ _).drew, xa_11, xr_11, xs_11, hbw_11⟩ (fun hHeld => ?_)
    refine take1 (i := 0) (d := some 80) (v := ?_) (by kernel_rfl) (by kernel_rfl) (by kernel_rfl) (by kernel_rfl) (fun _ _ _ h => h) ?_ hHeld ?_
    rotate_left
    · (intro o ho; simp only [List.getElem?_toArray, List.getElem?_cons_succ, List.getElem?_cons_zero, Option.some.injEq] at ho; subst ho; refine Or.inl ⟨by rfl, ?_⟩; intro w hSw; (try dsimp only at hSw); go_simp; try with_reducible rfl)
    try simp only [Act.put, List.setIfInBounds_toArray, List.set_cons_zero, List.set_cons_succ]
    refine take1 (i := 2) (d := some 82) (v := ?_) (by kernel_rfl) (by kernel_rfl) (by kernel_rfl) (by kernel_rfl) (fun _ _ _ h => h) ?_ hHeld ?_
    rotate_left
    · (intro o ho; simp only [List.getElem?_toArray, List.getElem?_cons_succ, List.getElem?_cons_zero, Option.some.injEq] at ho; subst ho; refine Or.inl ⟨by rfl, ?_⟩; intro w hSw; (try dsimp only at hSw); go_simp; try with_reducible rfl)
    try simp only [Act.put, List.setIfInBounds_toArray, List.set_cons_zero, List.set_cons_succ]
    obtain ⟨u0, hq0⟩ : ∃ u0, w22.drew = u0 := ⟨_, rfl⟩
    rw [hq0] at hHeld ⊢
    clear hq0
    have hB0 := hHeld.1
    refine call2 (i := 1) (d := some 81) (j := 8) (e := some 14) (by kernel_rfl) (by kernel_rfl) (by kernel_rfl) ?_ ?_
    rotate_left
    · skip
      intro o ho hod K hK; simp only [List.getElem?_toArray, List.getElem?_cons_succ, List.getElem?_cons_zero, Option.some.injEq] at ho; subst ho
      go_simp
      obtain ⟨ux, hqx⟩ : ∃ ux, u0.alloc (.cells #[.slice none 0 0] 41) = ux := ⟨_, rfl⟩
      have hxb : Below u0.heap.size u0 ux := by rw [← hqx]; exact (Below.refl _ _).alloc (Nat.le_refl _) _
      have hxc : ux.cell? ⟨u0.heap.size, 0, none⟩ = some (.slice none 0 0) := by rw [← hqx]; simp
      have hxf : ux.frozen? ⟨u0.heap.size, 0, none⟩ = false := by rw [← hqx]; simp
      have hxz : ux.heap.size = u0.heap.size + 1 := by rw [← hqx]; simp
      obtain ⟨A7, hA6⟩ : ∃ A7, u0.heap.size = A7 := ⟨_, rfl⟩
      rw [hA6] at hxc hxf hxz ⊢
      rw [hqx]
      clear hqx
      have hBx := keepS hB0 hxb
      have hA0 : w22.heap.size ≤ A7 := by have := hB0.size; omega
      have hA6a : u0.heap.size ≤ A7 := by omega
      have hA6b : A7 ≤ u0.heap.size := by omega
      have hxbk := hid hxb
      clear hxb hA6
      refine hK.out _ _ ⟨hBx, (hBx.cell (p := ⟨w.heap.size, 0, none⟩) uz0).trans xa_11, (hBx.cell (p := ⟨w.heap.size + 1, 0, none⟩) uz1).trans xr_11, (hBx.cell (p := ⟨w.heap.size + 1, 1, none⟩) uz2).trans xs_11, (hBx.cell (p := ⟨A6, 0, none⟩) uz3).trans hbw_11⟩ (fun hHeld => ?_)
      clear hK K
      try simp only [Act.put, List.setIfInBounds_toArray, List.set_cons_zero, List.set_cons_succ]
      refine call1 (i := 1) (d := some 81) (by kernel_rfl) (by kernel_rfl) ?_
      intro o ho hod K hK; simp only [List.getElem?_toArray, List.getElem?_cons_succ, List.getElem?_cons_zero, Option.some.injEq] at ho; subst ho
      go_simp
      refine (toContext a n c R F T _ hl (HH.out.below (keepS HB_11.out hBx))).mono ?_
      rintro e u3 ⟨ug3, uh3, uh3', rfl, us3, ub3⟩
      have zz0 := ub3.size
      replace hxc := (ub3.cell (p := ⟨A7, 0, none⟩) (show A7 < ux.heap.size by omega)).trans hxc
      replace hxf := (ub3.frozen (p := ⟨A7, 0, none⟩) (show A7 < ux.heap.size by omega)).trans hxf
      have hC0 := keepS hBx ub3
      refine hK.out _ _ ⟨hC0, (hC0.cell (p := ⟨w.heap.size, 0, none⟩) uz0).trans xa_11, (hC0.cell (p := ⟨w.heap.size + 1, 0, none⟩) uz1).trans xr_11, (hC0.cell (p := ⟨w.heap.size + 1, 1, none⟩) uz2).trans xs_11, (hC0.cell (p := ⟨A6, 0, none⟩) uz3).trans hbw_11⟩ (fun hHeld => ?_)
      clear hK K
      try simp only [Act.put, List.setIfInBounds_toArray, List.set_cons_zero, List.set_cons_succ]
      refine call1 (i := 3) (d := some 83) (by kernel_rfl) (by kernel_rfl) ?_
      intro o ho hod K hK; simp only [List.getElem?_toArray, List.getElem?_cons_succ, List.getElem?_cons_zero, Option.some.injEq] at ho; subst ho
      go_simp
      refine (toDotL r s _).mono ?_
      rintro e u4 ⟨rfl, ub4⟩
      have zz1 := ub4.size
      replace us3 := us3.below ub4
      replace hxc := (ub4.cell (p := ⟨A7, 0, none⟩) (show A7 < u3.heap.size by omega)).trans hxc
      replace hxf := (ub4.frozen (p := ⟨A7, 0, none⟩) (show A7 < u3.heap.size by omega)).trans hxf
      have hC1 := keepS hC0 ub4
      refine hK.out _ _ ⟨hC1, (hC1.cell (p := ⟨w.heap.size, 0, none⟩) uz0).trans xa_11, (hC1.cell (p := ⟨w.heap.size + 1, 0, none⟩) uz1).trans xr_11, (hC1.cell (p := ⟨w.heap.size + 1, 1, none⟩) uz2).trans xs_11, (hC1.cell (p := ⟨A6, 0, none⟩) uz3).trans hbw_11⟩ (fun hHeld => ?_)
      clear hK K
      try simp only [Act.put, List.setIfInBounds_toArray, List.set_cons_zero, List.set_cons_succ]
      refine call1 (i := 4) (d := some 84) (by kernel_rfl) (by kernel_rfl) ?_
      intro o ho hod K hK; simp only [List.getElem?_toArray, List.getElem?_cons_succ, List.getElem?_cons_zero, Option.some.injEq] at ho; subst ho
      go_simp
      have hBn := hC1
      refine (implAd _ n n R F T r s _ hl us3).mono ?_
      rintro e u5 ⟨uv, rfl, uo5, ub5⟩
      rw [HZ.out] at uo5
      rw [HOK.out]
      obtain ⟨uy, um, uc, ue⟩ := row_form uo5
      subst ue
      have zz2 := ub5.size
      replace hxc := (ub5.cell (p := ⟨A7, 0, none⟩) (show A7 < u4.heap.size by omega)).trans hxc
      replace hxf := (ub5.frozen (p := ⟨A7, 0, none⟩) (show A7 < u4.heap.size by omega)).trans hxf
      have hC2 := keepS hC1 ub5
      refine hK.out _ _ ⟨hC2, (hC2.cell (p := ⟨w.heap.size, 0, none⟩) uz0).trans xa_11, (hC2.cell (p := ⟨w.heap.size + 1, 0, none⟩) uz1).trans xr_11, (hC2.cell (p := ⟨w.heap.size + 1, 1, none⟩) uz2).trans xs_11, (hC2.cell (p := ⟨A6, 0, none⟩) uz3).trans hbw_11⟩ (fun hHeld => ?_)
      clear hK K
      try simp only [Act.put, List.setIfInBounds_toArray, List.set_cons_zero, List.set_cons_succ]
      refine take1 (i := 5) (d := some 79) (v := ?_) (by kernel_rfl) (by kernel_rfl) (by kernel_rfl) (by kernel_rfl) (fun _ _ _ h => h) ?_ hHeld ?_
      rotate_left
      · (intro o ho; simp only [List.getElem?_toArray, List.getElem?_cons_succ, List.getElem?_cons_zero, Option.some.injEq] at ho; subst ho; refine Or.inl ⟨by rfl, ?_⟩; intro w hSw; (try dsimp only at hSw); go_simp; try with_reducible rfl)
      try simp only [Act.put, List.setIfInBounds_toArray, List.set_cons_zero, List.set_cons_succ]
      refine take1 (i := 6) (d := some 85) (v := ?_) (by kernel_rfl) (by kernel_rfl) (by kernel_rfl) (by kernel_rfl) (fun _ _ _ h => h) ?_ hHeld ?_
      rotate_left
      · (intro o ho; simp only [List.getElem?_toArray, List.getElem?_cons_succ, List.getElem?_cons_zero, Option.some.injEq] at ho; subst ho; refine Or.inl ⟨by rfl, ?_⟩; intro w hSw; (try dsimp only at hSw); go_simp; try with_reducible rfl)
      try simp only [Act.put, List.setIfInBounds_toArray, List.set_cons_zero, List.set_cons_succ]
      refine take1 (i := 7) (d := some 86) (v := ?_) (by kernel_rfl) (by kernel_rfl) (by kernel_rfl) (by kernel_rfl) (fun _ _ _ h => h) ?_ hHeld ?_
      rotate_left
      · (intro o ho; simp only [List.getElem?_toArray, List.getElem?_cons_succ, List.getElem?_cons_zero, Option.some.injEq] at ho; subst ho; refine Or.inl ⟨by rfl, ?_⟩; intro w hSw; (try dsimp only at hSw); go_simp; try with_reducible rfl)
      try simp only [Act.put, List.setIfInBounds_toArray, List.set_cons_zero, List.set_cons_succ]
      refine call1 (i := 9) (d := none) (by kernel_rfl) (by kernel_rfl) ?_
      intro o ho hod K hK; simp only [List.getElem?_toArray, List.getElem?_cons_succ, List.getElem?_cons_zero, Option.some.injEq] at ho; subst ho
      go_simp
      obtain ⟨W7, hW6⟩ : ∃ W7, u5.setCell ⟨A7, 0, none⟩ (.slice uy um uc) = W7 := ⟨_, rfl⟩
      have hB7 : Below w22.heap.size w22 W7 := by rw [← hW6]; exact hC2.setCell (p := ⟨A7, 0, none⟩) hA0 _
      have hx7 : W7.cell? ⟨A7, 0, none⟩ = some (.slice uy um uc) := by rw [← hW6]; exact World.cell?_setCell_same _ _ _ hxc
      have hz7 : W7.heap.size = u5.heap.size := by rw [← hW6]; simp [World.setCell]
      have hF7 : FR W7 w22.heap.size (.slice uy um uc) Z := by rw [← hW6]; exact FR.weak (ownsRow_setCell_below uo5 (a := ⟨A7, 0, none⟩) (by show A7 < _; omega) _) (by have := hBn.size; omega)
      have hN7 : ∀ g, (Value.slice uy um uc).ownBlock = some g → g ≠ A7 := fun g hg e => by have := (World.ownsRow.lt uo5 g hg).1; omega
      rw [hW6]
      refine hK.out _ _ ⟨hB7, (hB7.cell (p := ⟨w.heap.size, 0, none⟩) uz0).trans xa_11, (hB7.cell (p := ⟨w.heap.size + 1, 0, none⟩) uz1).trans xr_11, (hB7.cell (p := ⟨w.heap.size + 1, 1, none⟩) uz2).trans xs_11, (hB7.cell (p := ⟨A6, 0, none⟩) uz3).trans hbw_11⟩ (fun hHeld => ?_)
      clear hK K
      try simp only [Act.put, List.setIfInBounds_toArray, List.set_cons_zero, List.set_cons_succ]
      refine take1 (i := 10) (d := some 15) (v := ?_) (by kernel_rfl) (by kernel_rfl) (by kernel_rfl) (by kernel_rfl) (fun _ _ _ h => h) ?_ hHeld ?_
      rotate_left
      · (intro o ho; simp only [List.getElem?_toArray, List.getElem?_cons_succ, List.getElem?_cons_zero, Option.some.injEq] at ho; subst ho; refine Or.inl ⟨by rfl, ?_⟩; intro w hSw; (try dsimp only at hSw); go_simp; try with_reducible rfl)
      try simp only [Act.put, List.setIfInBounds_toArray, List.set_cons_zero, List.set_cons_succ]
      refine wpAnyH_done (by kernel_rfl) ?_ _
      have hA1 : A7 < W7.heap.size := by omega
      clear hHeld
      clear hW6
      clear hz7
      clear hxc
      clear hxf
      clear hxz
      clear hA6a
      clear hA6b
      clear uo5
      clear uh3
      clear uh3'
      clear us3
      revert A7 ug3 uy um uc W7
      exact key.out
    · skip
      intro o ho hod K hK; simp only [List.getElem?_toArray, List.getElem?_cons_succ, List.getElem?_cons_zero, Option.some.injEq] at ho; subst ho
      go_simp
      refine (toContext a n c R F T _ hl (HH.out.below (keepS HB_11.out hB0))).mono ?_
      rintro e u3 ⟨ug3, uh3, uh3', rfl, us3, ub3⟩
      have zz0 := ub3.size
      have hC0 := keepS hB0 ub3
      refine hK.out _ _ ⟨hC0, (hC0.cell (p := ⟨w.heap.size, 0, none⟩) uz0).trans xa_11, (hC0.cell (p := ⟨w.heap.size + 1, 0, none⟩) uz1).trans xr_11, (hC0.cell (p := ⟨w.heap.size + 1, 1, none⟩) uz2).trans xs_11, (hC0.cell (p := ⟨A6, 0, none⟩) uz3).trans hbw_11⟩ (fun hHeld => ?_)
      clear hK K
      try simp only [Act.put, List.setIfInBounds_toArray, List.set_cons_zero, List.set_cons_succ]
      refine call2 (i := 3) (d := some 83) (j := 8) (e := some 14) (by kernel_rfl) (by kernel_rfl) (by kernel_rfl) ?_ ?_
      rotate_left
      · skip
        intro o ho hod K hK; simp only [List.getElem?_toArray, List.getElem?_cons_succ, List.getElem?_cons_zero, Option.some.injEq] at ho; subst ho
        go_simp
        obtain ⟨ux, hqx⟩ : ∃ ux, u3.alloc (.cells #[.slice none 0 0] 41) = ux := ⟨_, rfl⟩
        have hxb : Below u3.heap.size u3 ux := by rw [← hqx]; exact (Below.refl _ _).alloc (Nat.le_refl _) _
        have hxc : ux.cell? ⟨u3.heap.size, 0, none⟩ = some (.slice none 0 0) := by rw [← hqx]; simp
        have hxf : ux.frozen? ⟨u3.heap.size, 0, none⟩ = false := by rw [← hqx]; simp
        have hxz : ux.heap.size = u3.heap.size + 1 := by rw [← hqx]; simp
        obtain ⟨A7, hA6⟩ : ∃ A7, u3.heap.size = A7 := ⟨_, rfl⟩
        rw [hA6] at hxc hxf hxz ⊢
        rw [hqx]
        clear hqx
        have hBx := keepS hC0 hxb
        replace us3 := us3.below hxb
        have hA0 : w22.heap.size ≤ A7 := by have := hC0.size; omega
        have hA6a : u3.heap.size ≤ A7 := by omega
        have hA6b : A7 ≤ u3.heap.size := by omega
        have hxbk := hid hxb
        clear hxb hA6
        refine hK.out _ _ ⟨hBx, (hBx.cell (p := ⟨w.heap.size, 0, none⟩) uz0).trans xa_11, (hBx.cell (p := ⟨w.heap.size + 1, 0, none⟩) uz1).trans xr_11, (hBx.cell (p := ⟨w.heap.size + 1, 1, none⟩) uz2).trans xs_11, (hBx.cell (p := ⟨A6, 0, none⟩) uz3).trans hbw_11⟩ (fun hHeld => ?_)
        clear hK K
        try simp only [Act.put, List.setIfInBounds_toArray, List.set_cons_zero, List.set_cons_succ]
        refine call1 (i := 3) (d := some 83) (by kernel_rfl) (by kernel_rfl) ?_
        intro o ho hod K hK; simp only [List.getElem?_toArray, List.getElem?_cons_succ, List.getElem?_cons_zero, Option.some.injEq] at ho; subst ho
        go_simp
        refine (toDotL r s _).mono ?_
        rintro e u4 ⟨rfl, ub4⟩
        have zz1 := ub4.size
        replace us3 := us3.below ub4
        replace hxc := (ub4.cell (p := ⟨A7, 0, none⟩) (show A7 < ux.heap.size by omega)).trans hxc
        replace hxf := (ub4.frozen (p := ⟨A7, 0, none⟩) (show A7 < ux.heap.size by omega)).trans hxf
        have hC1 := keepS hBx ub4
        refine hK.out _ _ ⟨hC1, (hC1.cell (p := ⟨w.heap.size, 0, none⟩) uz0).trans xa_11, (hC1.cell (p := ⟨w.heap.size + 1, 0, none⟩) uz1).trans xr_11, (hC1.cell (p := ⟨w.heap.size + 1, 1, none⟩) uz2).trans xs_11, (hC1.cell (p := ⟨A6, 0, none⟩) uz3).trans hbw_11⟩ (fun hHeld => ?_)
        clear hK K
        try simp only [Act.put, List.setIfInBounds_toArray, List.set_cons_zero, List.set_cons_succ]
        refine call1 (i := 4) (d := some 84) (by kernel_rfl) (by kernel_rfl) ?_
        intro o ho hod K hK; simp only [List.getElem?_toArray, List.getElem?_cons_succ, List.getElem?_cons_zero, Option.some.injEq] at ho; subst ho
        go_simp
        have hBn := hC1
        refine (implAd _ n n R F T r s _ hl us3).mono ?_
        rintro e u5 ⟨uv, rfl, uo5, ub5⟩
        rw [HZ.out] at uo5
        rw [HOK.out]
        obtain ⟨uy, um, uc, ue⟩ := row_form uo5
        subst ue
        have zz2 := ub5.size
        replace hxc := (ub5.cell (p := ⟨A7, 0, none⟩) (show A7 < u4.heap.size by omega)).trans hxc
        replace hxf := (ub5.frozen (p := ⟨A7, 0, none⟩) (show A7 < u4.heap.size by omega)).trans hxf
        have hC2 := keepS hC1 ub5
        refine hK.out _ _ ⟨hC2, (hC2.cell (p := ⟨w.heap.size, 0, none⟩) uz0).trans xa_11, (hC2.cell (p := ⟨w.heap.size + 1, 0, none⟩) uz1).trans xr_11, (hC2.cell (p := ⟨w.heap.size + 1, 1, none⟩) uz2).trans xs_11, (hC2.cell (p := ⟨A6, 0, none⟩) uz3).trans hbw_11⟩ (fun hHeld => ?_)
        clear hK K
        try simp only [Act.put, List.setIfInBounds_toArray, List.set_cons_zero, List.set_cons_succ]
        refine take1 (i := 5) (d := some 79) (v := ?_) (by kernel_rfl) (by kernel_rfl) (by kernel_rfl) (by kernel_rfl) (fun _ _ _ h => h) ?_ hHeld ?_
        rotate_left
        · (intro o ho; simp only [List.getElem?_toArray, List.getElem?_cons_succ, List.getElem?_cons_zero, Option.some.injEq] at ho; subst ho; refine Or.inl ⟨by rfl, ?_⟩; intro w hSw; (try dsimp only at hSw); go_simp; try with_reducible rfl)
        try simp only [Act.put, List.setIfInBounds_toArray, List.set_cons_zero, List.set_cons_succ]
        refine take1 (i := 6) (d := some 85) (v := ?_) (by kernel_rfl) (by kernel_rfl) (by kernel_rfl) (by kernel_rfl) (fun _ _ _ h => h) ?_ hHeld ?_
        rotate_left
        · (intro o ho; simp only [List.getElem?_toArray, List.getElem?_cons_succ, List.getElem?_cons_zero, Option.some.injEq] at ho; subst ho; refine Or.inl ⟨by rfl, ?_⟩; intro w hSw; (try dsimp only at hSw); go_simp; try with_reducible rfl)
        try simp only [Act.put, List.setIfInBounds_toArray, List.set_cons_zero, List.set_cons_succ]
        refine take1 (i := 7) (d := some 86) (v := ?_) (by kernel_rfl) (by kernel_rfl) (by kernel_rfl) (by kernel_rfl) (fun _ _ _ h => h) ?_ hHeld ?_
        rotate_left
        · (intro o ho; simp only [List.getElem?_toArray, List.getElem?_cons_succ, List.getElem?_cons_zero, Option.some.injEq] at ho; subst ho; refine Or.inl ⟨by rfl, ?_⟩; intro w hSw; (try dsimp only at hSw); go_simp; try with_reducible rfl)
        try simp only [Act.put, List.setIfInBounds_toArray, List.set_cons_zero, List.set_cons_succ]
        refine call1 (i := 9) (d := none) (by kernel_rfl) (by kernel_rfl) ?_
        intro o ho hod K hK; simp only [List.getElem?_toArray, List.getElem?_cons_succ, List.getElem?_cons_zero, Option.some.injEq] at ho; subst ho
        go_simp
        obtain ⟨W7, hW6⟩ : ∃ W7, u5.setCell ⟨A7, 0, none⟩ (.slice uy um uc) = W7 := ⟨_, rfl⟩
        have hB7 : Below w22.heap.size w22 W7 := by rw [← hW6]; exact hC2.setCell (p := ⟨A7, 0, none⟩) hA0 _
        have hx7 : W7.cell? ⟨A7, 0, none⟩ = some (.slice uy um uc) := by rw [← hW6]; exact World.cell?_setCell_same _ _ _ hxc
        have hz7 : W7.heap.size = u5.heap.size := by rw [← hW6]; simp [World.setCell]
        have hF7 : FR W7 w22.heap.size (.slice uy um uc) Z := by rw [← hW6]; exact FR.weak (ownsRow_setCell_below uo5 (a := ⟨A7, 0, none⟩) (by show A7 < _; omega) _) (by have := hBn.size; omega)
        have hN7 : ∀ g, (Value.slice uy um uc).ownBlock = some g → g ≠ A7 := fun g hg e => by have := (World.ownsRow.lt uo5 g hg).1; omega
        rw [hW6]
        refine hK.out _ _ ⟨hB7, (hB7.cell (p := ⟨w.heap.size, 0, none⟩) uz0).trans xa_11, (hB7.cell (p := ⟨w.heap.size + 1, 0, none⟩) uz1).trans xr_11, (hB7.cell (p := ⟨w.heap.size + 1, 1, none⟩) uz2).trans xs_11, (hB7.cell (p := ⟨A6, 0, none⟩) uz3).trans hbw_11⟩ (fun hHeld => ?_)
        clear hK K
        try simp only [Act.put, List.setIfInBounds_toArray, List.set_cons_zero, List.set_cons_succ]
        refine take1 (i := 10) (d := some 15) (v := ?_) (by kernel_rfl) (by kernel_rfl) (by kernel_rfl) (by kernel_rfl) (fun _ _ _ h => h) ?_ hHeld ?_
        rotate_left
        · (intro o ho; simp only [List.getElem?_toArray, List.getElem?_cons_succ, List.getElem?_cons_zero, Option.some.injEq] at ho; subst ho; refine Or.inl ⟨by rfl, ?_⟩; intro w hSw; (try dsimp only at hSw); go_simp; try with_reducible rfl)
        try simp only [Act.put, List.setIfInBounds_toArray, List.set_cons_zero, List.set_cons_succ]
        refine wpAnyH_done (by kernel_rfl) ?_ _
        have hA1 : A7 < W7.heap.size := by omega
        exact key.out A7 hA0 ug3 uy um uc W7 hB7 hx7 hF7 hN7 hA1
      · skip
        intro o ho hod K hK; simp only [List.getElem?_toArray, List.getElem?_cons_succ, List.getElem?_cons_zero, Option.some.injEq] at ho; subst ho
        go_simp
        refine (toDotL r s _).mono ?_
        rintro e u4 ⟨rfl, ub4⟩
        have zz1 := ub4.size
        replace us3 := us3.below ub4
        have hC1 := keepS hC0 ub4
        refine hK.out _ _ ⟨hC1, (hC1.cell (p := ⟨w.heap.size, 0, none⟩) uz0).trans xa_11, (hC1.cell (p := ⟨w.heap.size + 1, 0, none⟩) uz1).trans xr_11, (hC1.cell (p := ⟨w.heap.size + 1, 1, none⟩) uz2).trans xs_11, (hC1.cell (p := ⟨A6, 0, none⟩) uz3).trans hbw_11⟩ (fun hHeld => ?_)
        clear hK K
        try simp only [Act.put, List.setIfInBounds_toArray, List.set_cons_zero, List.set_cons_succ]
        refine call2 (i := 4) (d := some 84) (j := 8) (e := some 14) (by kernel_rfl) (by kernel_rfl) (by kernel_rfl) ?_ ?_
        rotate_left
        · skip
          intro o ho hod K hK; simp only [List.getElem?_toArray, List.getElem?_cons_succ, List.getElem?_cons_zero, Option.some.injEq] at ho; subst ho
          go_simp
          obtain ⟨ux, hqx⟩ : ∃ ux, u4.alloc (.cells #[.slice none 0 0] 41) = ux := ⟨_, rfl⟩
          have hxb : Below u4.heap.size u4 ux := by rw [← hqx]; exact (Below.refl _ _).alloc (Nat.le_refl _) _
          have hxc : ux.cell? ⟨u4.heap.size, 0, none⟩ = some (.slice none 0 0) := by rw [← hqx]; simp
          have hxf : ux.frozen? ⟨u4.heap.size, 0, none⟩ = false := by rw [← hqx]; simp
          have hxz : ux.heap.size = u4.heap.size + 1 := by rw [← hqx]; simp
          obtain ⟨A7, hA6⟩ : ∃ A7, u4.heap.size = A7 := ⟨_, rfl⟩
          rw [hA6] at hxc hxf hxz ⊢
          rw [hqx]
          clear hqx
          have hBx := keepS hC1 hxb
          replace us3 := us3.below hxb
          have hA0 : w22.heap.size ≤ A7 := by have := hC1.size; omega
          have hA6a : u4.heap.size ≤ A7 := by omega
          have hA6b : A7 ≤ u4.heap.size := by omega
          have hxbk := hid hxb
          clear hxb hA6
          refine hK.out _ _ ⟨hBx, (hBx.cell (p := ⟨w.heap.size, 0, none⟩) uz0).trans xa_11, (hBx.cell (p := ⟨w.heap.size + 1, 0, none⟩) uz1).trans xr_11, (hBx.cell (p := ⟨w.heap.size + 1, 1, none⟩) uz2).trans xs_11, (hBx.cell (p := ⟨A6, 0, none⟩) uz3).trans hbw_11⟩ (fun hHeld => ?_)
          clear hK K
          try simp only [Act.put, List.setIfInBounds_toArray, List.set_cons_zero, List.set_cons_succ]
          refine call1 (i := 4) (d := some 84) (by kernel_rfl) (by kernel_rfl) ?_
          intro o ho hod K hK; simp only [List.getElem?_toArray, List.getElem?_cons_succ, List.getElem?_cons_zero, Option.some.injEq] at ho; subst ho
          go_simp
          have hBn := hBx
          refine (implAd _ n n R F T r s _ hl us3).mono ?_
          rintro e u5 ⟨uv, rfl, uo5, ub5⟩
          rw [HZ.out] at uo5
          rw [HOK.out]
          obtain ⟨uy, um, uc, ue⟩ := row_form uo5
          subst ue
          have zz2 := ub5.size
          replace hxc := (ub5.cell (p := ⟨A7, 0, none⟩) (show A7 < ux.heap.size by omega)).trans hxc
          replace hxf := (ub5.frozen (p := ⟨A7, 0, none⟩) (show A7 < ux.heap.size by omega)).trans hxf
          have hC2 := keepS hBx ub5
          refine hK.out _ _ ⟨hC2, (hC2.cell (p := ⟨w.heap.size, 0, none⟩) uz0).trans xa_11, (hC2.cell (p := ⟨w.heap.size + 1, 0, none⟩) uz1).trans xr_11, (hC2.cell (p := ⟨w.heap.size + 1, 1, none⟩) uz2).trans xs_11, (hC2.cell (p := ⟨A6, 0, none⟩) uz3).trans hbw_11⟩ (fun hHeld => ?_)
          clear hK K
          try simp only [Act.put, List.setIfInBounds_toArray, List.set_cons_zero, List.set_cons_succ]
          refine take1 (i := 5) (d := some 79) (v := ?_) (by kernel_rfl) (by kernel_rfl) (by kernel_rfl) (by kernel_rfl) (fun _ _ _ h => h) ?_ hHeld ?_
          rotate_left
          · (intro o ho; simp only [List.getElem?_toArray, List.getElem?_cons_succ, List.getElem?_cons_zero, Option.some.injEq] at ho; subst ho; refine Or.inl ⟨by rfl, ?_⟩; intro w hSw; (try dsimp only at hSw); go_simp; try with_reducible rfl)
          try simp only [Act.put, List.setIfInBounds_toArray, List.set_cons_zero, List.set_cons_succ]
          refine take1 (i := 6) (d := some 85) (v := ?_) (by kernel_rfl) (by kernel_rfl) (by kernel_rfl) (by kernel_rfl) (fun _ _ _ h => h) ?_ hHeld ?_
          rotate_left
          · (intro o ho; simp only [List.getElem?_toArray, List.getElem?_cons_succ, List.getElem?_cons_zero, Option.some.injEq] at ho; subst ho; refine Or.inl ⟨by rfl, ?_⟩; intro w hSw; (try dsimp only at hSw); go_simp; try with_reducible rfl)
          try simp only [Act.put, List.setIfInBounds_toArray, List.set_cons_zero, List.set_cons_succ]
          refine take1 (i := 7) (d := some 86) (v := ?_) (by kernel_rfl) (by kernel_rfl) (by kernel_rfl) (by kernel_rfl) (fun _ _ _ h => h) ?_ hHeld ?_
          rotate_left
          · (intro o ho; simp only [List.getElem?_toArray, List.getElem?_cons_succ, List.getElem?_cons_zero, Option.some.injEq] at ho; subst ho; refine Or.inl ⟨by rfl, ?_⟩; intro w hSw; (try dsimp only at hSw); go_simp; try with_reducible rfl)
          try simp only [Act.put, List.setIfInBounds_toArray, List.set_cons_zero, List.set_cons_succ]
          refine call1 (i := 9) (d := none) (by kernel_rfl) (by kernel_rfl) ?_
          intro o ho hod K hK; simp only [List.getElem?_toArray, List.getElem?_cons_succ, List.getElem?_cons_zero, Option.some.injEq] at ho; subst ho
          go_simp
          obtain ⟨W7, hW6⟩ : ∃ W7, u5.setCell ⟨A7, 0, none⟩ (.slice uy um uc) = W7 := ⟨_, rfl⟩
          have hB7 : Below w22.heap.size w22 W7 := by rw [← hW6]; exact hC2.setCell (p := ⟨A7, 0, none⟩) hA0 _
          have hx7 : W7.cell? ⟨A7, 0, none⟩ = some (.slice uy um uc) := by rw [← hW6]; exact World.cell?_setCell_same _ _ _ hxc
          have hz7 : W7.heap.size = u5.heap.size := by rw [← hW6]; simp [World.setCell]
          have hF7 : FR W7 w22.heap.size (.slice uy um uc) Z := by rw [← hW6]; exact FR.weak (ownsRow_setCell_below uo5 (a := ⟨A7, 0, none⟩) (by show A7 < _; omega) _) (by have := hBn.size; omega)
          have hN7 : ∀ g, (Value.slice uy um uc).ownBlock = some g → g ≠ A7 := fun g hg e => by have := (World.ownsRow.lt uo5 g hg).1; omega
          rw [hW6]
          refine hK.out _ _ ⟨hB7, (hB7.cell (p := ⟨w.heap.size, 0, none⟩) uz0).trans xa_11, (hB7.cell (p := ⟨w.heap.size + 1, 0, none⟩) uz1).trans xr_11, (hB7.cell (p := ⟨w.heap.size + 1, 1, none⟩) uz2).trans xs_11, (hB7.cell (p := ⟨A6, 0, none⟩) uz3).trans hbw_11⟩ (fun hHeld => ?_)
          clear hK K
          try simp only [Act.put, List.setIfInBounds_toArray, List.set_cons_zero, List.set_cons_succ]
          refine take1 (i := 10) (d := some 15) (v := ?_) (by kernel_rfl) (by kernel_rfl) (by kernel_rfl) (by kernel_rfl) (fun _ _ _ h => h) ?_ hHeld ?_
          rotate_left
          · (intro o ho; simp only [List.getElem?_toArray, List.getElem?_cons_succ, List.getElem?_cons_zero, Option.some.injEq] at ho; subst ho; refine Or.inl ⟨by rfl, ?_⟩; intro w hSw; (try dsimp only at hSw); go_simp; try with_reducible rfl)
          try simp only [Act.put, List.setIfInBounds_toArray, List.set_cons_zero, List.set_cons_succ]
          refine wpAnyH_done (by kernel_rfl) ?_ _
          have hA1 : A7 < W7.heap.size := by omega
          exact key.out A7 hA0 ug3 uy um uc W7 hB7 hx7 hF7 hN7 hA1
        · skip
          intro o ho hod K hK; simp only [List.getElem?_toArray, List.getElem?_cons_succ, List.getElem?_cons_zero, Option.some.injEq] at ho; subst ho
          go_simp
          have hBn := hC1
          refine (implAd _ n n R F T r s _ hl us3).mono ?_
          rintro e u5 ⟨uv, rfl, uo5, ub5⟩
          rw [HZ.out] at uo5
          rw [HOK.out]
          obtain ⟨uy, um, uc, ue⟩ := row_form uo5
          subst ue
          have zz2 := ub5.size
          have hC2 := keepS hC1 ub5
          refine hK.out _ _ ⟨hC2, (hC2.cell (p := ⟨w.heap.size, 0, none⟩) uz0).trans xa_11, (hC2.cell (p := ⟨w.heap.size + 1, 0, none⟩) uz1).trans xr_11, (hC2.cell (p := ⟨w.heap.size + 1, 1, none⟩) uz2).trans xs_11, (hC2.cell (p := ⟨A6, 0, none⟩) uz3).trans hbw_11⟩ (fun hHeld => ?_)
          clear hK K
          try simp only [Act.put, List.setIfInBounds_toArray, List.set_cons_zero, List.set_cons_succ]
          refine take1 (i := 5) (d := some 79) (v := ?_) (by kernel_rfl) (by kernel_rfl) (by kernel_rfl) (by kernel_rfl) (fun _ _ _ h => h) ?_ hHeld ?_
          rotate_left
          · (intro o ho; simp only [List.getElem?_toArray, List.getElem?_cons_succ, List.getElem?_cons_zero, Option.some.injEq] at ho; subst ho; refine Or.inl ⟨by rfl, ?_⟩; intro w hSw; (try dsimp only at hSw); go_simp; try with_reducible rfl)
          try simp only [Act.put, List.setIfInBounds_toArray, List.set_cons_zero, List.set_cons_succ]
          refine take1 (i := 6) (d := some 85) (v := ?_) (by kernel_rfl) (by kernel_rfl) (by kernel_rfl) (by kernel_rfl) (fun _ _ _ h => h) ?_ hHeld ?_
          rotate_left
          · (intro o ho; simp only [List.getElem?_toArray, List.getElem?_cons_succ, List.getElem?_cons_zero, Option.some.injEq] at ho; subst ho; refine Or.inl ⟨by rfl, ?_⟩; intro w hSw; (try dsimp only at hSw); go_simp; try with_reducible rfl)
          try simp only [Act.put, List.setIfInBounds_toArray, List.set_cons_zero, List.set_cons_succ]
          refine take1 (i := 7) (d := some 86) (v := ?_) (by kernel_rfl) (by kernel_rfl) (by kernel_rfl) (by kernel_rfl) (fun _ _ _ h => h) ?_ hHeld ?_
          rotate_left
          · (intro o ho; simp only [List.getElem?_toArray, List.getElem?_cons_succ, List.getElem?_cons_zero, Option.some.injEq] at ho; subst ho; refine Or.inl ⟨by rfl, ?_⟩; intro w hSw; (try dsimp only at hSw); go_simp; try with_reducible rfl)
          try simp only [Act.put, List.setIfInBounds_toArray, List.set_cons_zero, List.set_cons_succ]
          refine call1 (i := 8) (d := some 14) (by kernel_rfl) (by kernel_rfl) ?_
          intro o ho hod K hK; simp only [List.getElem?_toArray, List.getElem?_cons_succ, List.getElem?_cons_zero, Option.some.injEq] at ho; subst ho
          go_simp
          obtain ⟨ux, hqx⟩ : ∃ ux, u5.alloc (.cells #[.slice none 0 0] 41) = ux := ⟨_, rfl⟩
          have hxb : Below u5.heap.size u5 ux := by rw [← hqx]; exact (Below.refl _ _).alloc (Nat.le_refl _) _
          have hxc : ux.cell? ⟨u5.heap.size, 0, none⟩ = some (.slice none 0 0) := by rw [← hqx]; simp
          have hxf : ux.frozen? ⟨u5.heap.size, 0, none⟩ = false := by rw [← hqx]; simp
          have hxz : ux.heap.size = u5.heap.size + 1 := by rw [← hqx]; simp
          obtain ⟨A7, hA6⟩ : ∃ A7, u5.heap.size = A7 := ⟨_, rfl⟩
          rw [hA6] at hxc hxf hxz ⊢
          rw [hqx]
          clear hqx
          have hB6 := keepS hC2 hxb
          have hA0 : w22.heap.size ≤ A7 := by have := hC2.size; omega
          have hA6a : u5.heap.size ≤ A7 := by omega
          have hA6b : A7 ≤ u5.heap.size := by omega
          have hxbk := hid hxb
          clear hxb hA6
          refine hK.out _ _ ⟨hB6, (hB6.cell (p := ⟨w.heap.size, 0, none⟩) uz0).trans xa_11, (hB6.cell (p := ⟨w.heap.size + 1, 0, none⟩) uz1).trans xr_11, (hB6.cell (p := ⟨w.heap.size + 1, 1, none⟩) uz2).trans xs_11, (hB6.cell (p := ⟨A6, 0, none⟩) uz3).trans hbw_11⟩ (fun hHeld => ?_)
          clear hK K
          try simp only [Act.put, List.setIfInBounds_toArray, List.set_cons_zero, List.set_cons_succ]
          refine call1 (i := 9) (d := none) (by kernel_rfl) (by kernel_rfl) ?_
          intro o ho hod K hK; simp only [List.getElem?_toArray, List.getElem?_cons_succ, List.getElem?_cons_zero, Option.some.injEq] at ho; subst ho
          go_simp
          obtain ⟨W7, hW6⟩ : ∃ W7, ux.setCell ⟨A7, 0, none⟩ (.slice uy um uc) = W7 := ⟨_, rfl⟩
          have hB7 : Below w22.heap.size w22 W7 := by rw [← hW6]; exact hB6.setCell (p := ⟨A7, 0, none⟩) hA0 _
          have hx7 : W7.cell? ⟨A7, 0, none⟩ = some (.slice uy um uc) := by rw [← hW6]; exact World.cell?_setCell_same _ _ _ hxc
          have hz7 : W7.heap.size = ux.heap.size := by rw [← hW6]; simp [World.setCell]
          have hF7 : FR W7 w22.heap.size (.slice uy um uc) Z := by rw [← hW6]; exact FR.weak (FR.below uo5 (hxbk.out.setCell (p := ⟨A7, 0, none⟩) hA6a _)) (by have := hBn.size; omega)
          have hN7 : ∀ g, (Value.slice uy um uc).ownBlock = some g → g ≠ A7 := fun g hg e => by have := (World.ownsRow.lt uo5 g hg).2; omega
          rw [hW6]
          refine hK.out _ _ ⟨hB7, (hB7.cell (p := ⟨w.heap.size, 0, none⟩) uz0).trans xa_11, (hB7.cell (p := ⟨w.heap.size + 1, 0, none⟩) uz1).trans xr_11, (hB7.cell (p := ⟨w.heap.size + 1, 1, none⟩) uz2).trans xs_11, (hB7.cell (p := ⟨A6, 0, none⟩) uz3).trans hbw_11⟩ (fun hHeld => ?_)
          clear hK K
          try simp only [Act.put, List.setIfInBounds_toArray, List.set_cons_zero, List.set_cons_succ]
          refine take1 (i := 10) (d := some 15) (v := ?_) (by kernel_rfl) (by kernel_rfl) (by kernel_rfl) (by kernel_rfl) (fun _ _ _ h => h) ?_ hHeld ?_
          rotate_left
          · (intro o ho; simp only [List.getElem?_toArray, List.getElem?_cons_succ, List.getElem?_cons_zero, Option.some.injEq] at ho; subst ho; refine Or.inl ⟨by rfl, ?_⟩; intro w hSw; (try dsimp only at hSw); go_simp; try with_reducible rfl)
          try simp only [Act.put, List.setIfInBounds_toArray, List.set_cons_zero, List.set_cons_succ]
          refine wpAnyH_done (by kernel_rfl) ?_ _
          have hA1 : A7 < W7.heap.size := by omega
          exact key.out A7 hA0 ug3 uy um uc W7 hB7 hx7 hF7 hN7 hA1
  intro A7 hA0 ug3 uy um uc W7 hB7 hx7 hF7 hN7 hA1
  have HFh := hid hF7
  clear hF7 hN7
  have zy12 := hB7.size
  have xa_12 := (hB7.cell (p := ⟨w.heap.size, 0, none⟩) (show w.heap.size < w22.heap.size by omega)).trans xa_11
  have xr_12 := (hB7.cell (p := ⟨w.heap.size + 1, 0, none⟩) (show w.heap.size + 1 < w22.heap.size by omega)).trans xr_11
  have xs_12 := (hB7.cell (p := ⟨w.heap.size + 1, 1, none⟩) (show w.heap.size + 1 < w22.heap.size by omega)).trans xs_11
  have hbw_12 := (hB7.cell (p := ⟨A6, 0, none⟩) (show A6 < w22.heap.size by omega)).trans hbw_11
  have HF6_12 := hid (HF6_11.out.below hB7)
  have HB_12 := hid (keepS HB_11.out hB7)
  clear xa_11 xr_11 xs_11 hbw_11 HF6_11 HB_11 hB7
  go_wp2_with fail
  refine (eqFR HFh.out HF6_12.out (by omega)).mono ?_
  rintro e w33 ⟨rfl, b33⟩
  have zy13 := b33.size
  have xa_13 := (b33.cell (p := ⟨w.heap.size, 0, none⟩) (show w.heap.size < W7.heap.size by omega)).trans xa_12
  have xr_13 := (b33.cell (p := ⟨w.heap.size + 1, 0, none⟩) (show w.heap.size + 1 < W7.heap.size by omega)).trans xr_12
  have xs_13 := (b33.cell (p := ⟨w.heap.size + 1, 1, none⟩) (show w.heap.size + 1 < W7.heap.size by omega)).trans xs_12
  have hbw_13 := (b33.cell (p := ⟨A6, 0, none⟩) (show A6 < W7.heap.size by omega)).trans hbw_12
  have HF6_13 := hid (HF6_12.out.below b33)
  have HB_13 := hid (keepS HB_12.out b33)
  clear xa_12 xr_12 xs_12 hbw_12 HF6_12 HB_12 b33
  go_wp2_with fail
  go_ret
  exact ⟨rfl, HB_13.out⟩

theorem own : ownKnob Try.prog.godebug = none := by kernel_rfl
theorem laidOut : laidOutB Try.prog = true := by kernel_rfl

set_option maxRecDepth 100000 in
theorem lifted (os : Os) (started : os.Started) (H : Type) (enc : TypeId × Value → H) :
    ReturnsInHanded {} Try.checked os 5 .any (Rows.fnExactAddDotSpec.pre6 enc Try.prog Try.f5 Rows.fnExactAddDotRow.domain false) (Rows.fnExactAddDotSpec.post enc Try.prog Try.f5 false true false false) := by
  refine returnsInHanded_of_change (C := Try.checked) own started (by kernel_rfl) Try.func5
    (ChangeSpec.witness6 (enc := enc) (C := Try.checked) false ⟨#[], #[.agg #[.slice none 0 0], .agg #[.int .i64 0, .int .i64 0]], []⟩ 8 (by kernel_rfl) (by kernel_rfl) (by kernel_rfl) (by kernel_rfl)) ?_
  intro W base args ds gs before hval0 hW hcnd _
  have hval : ∀ (j : Nat) t v, Try.f5.params[j]? = some t → args[j]? = some v → Value.okWide Try.prog W .any base t v := hval0
  have hW' := hW
  obtain ⟨p, q, hA0, hV, rfl, hfz, hnd⟩ := hW
  have hA : DataW.TrodAll enc Try.prog W 0 (fun _ => true) true Try.f5.params.toList args.toList ds p := hA0
  rw [Try.params5] at hA hval
  obtain ⟨v0, vs0, d0, ds0, p0, q0, hargs, rfl, rfl, h0, r0⟩ := trodAll_cons hA
  obtain ⟨v1, vs1, d1, ds1, p1, q1, rfl, rfl, rfl, h1, r1⟩ := trodAll_cons r0
  obtain ⟨rfl, rfl, rfl⟩ := trodAll_nil r1
  obtain rfl : args = #[v0, v1] := by cases args; simp_all
  obtain ⟨rfl, rfl⟩ := trodVars_none hV
  have k0 := h0
  have lt0 : ∀ x ∈ p0, x.block < W.heap.size := by obtain ⟨m, hm⟩ := k0; exact DataW.trod_lt m _ _ _ hm
  obtain ⟨a0, n0, c0, R0, F0, T0, rfl, hl0, s0, iR0, iF0, iT0⟩ := openCtx (hval 0 37 v0 rfl rfl) h0
  have k1 := h1
  have lt1 : ∀ x ∈ p1, x.block < W.heap.size := by obtain ⟨m, hm⟩ := k1; exact DataW.trod_lt m _ _ _ hm
  obtain ⟨x1, y1, rfl, wx1, wy1⟩ := openDot (hval 1 49 v1 rfl rfl) h1
  clear hA0 hval0
  refine (walk W a0 n0 c0 R0 F0 T0 hl0 (s0) iR0 iF0 iT0 x1 y1 wx1 wy1).mono fun e W' ⟨he, bel⟩ => ?_
  subst he
  exact ⟨_, rfl, _, _, _, [], _, [], hW', trodAll_mk1 (shut_bool Try.underlying4 _), (trodAll_cons_mk (Below.trod laidOut (by kernel_rfl) (of_decide_eq_true (by kernel_rfl)) k0 bel lt0) (trodAll_cons_mk (Below.trod laidOut (by kernel_rfl) (of_decide_eq_true (by kernel_rfl)) k1 bel lt1) trodAll_mk0)), rfl, bel.frame _, fun h => by cases h⟩

theorem over : Rows.fnExactAddDotRow.holds Try.pinned (OpenSpec.ofChange Rows.fnExactAddDotSpec) :=
  OpenClaim.holds_of_wide 5 Try.f5 rfl rfl rfl rfl rfl rfl rfl ⟨rfl, rfl, rfl, rfl, rfl⟩ rfl rfl rfl rfl rfl (by kernel_rfl) Try.func5 (by kernel_rfl)
    (of_decide_eq_true (by kernel_rfl)) (by unfold Func.isWrapper; first | (rw [if_pos (by decide +kernel)]; kernel_rfl) | (rw [if_neg (by decide +kernel)]; exact ⟨rfl, rfl⟩))
    (fun os started H enc _ => lifted os started H enc)
end Go.Proofs.Ytbimcammjohaoac.fnExactAddDot

namespace Go.Proofs.Ytbimcammjohaoac
theorem addDotHolds : Rows.FnExactAddDotSaid := fnExactAddDot.over
#print axioms addDotHolds
end Go.Proofs.Ytbimcammjohaoac
